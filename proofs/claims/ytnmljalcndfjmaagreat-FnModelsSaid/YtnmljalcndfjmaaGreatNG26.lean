/- Several texts in one: HoldN, Worlds. -/
import Derived.Test.YtnmljalcndfjmaaGreatNG15
import Derived.Test.YtnmljalcndfjmaaGreatHoldH
import Derived.Test.YtnmljalcndfjmaaGreatNG11
import Derived.Test.YtnmljalcndfjmaaGreatNG7
import Derived.Test.YtnmljalcndfjmaaGreatNG20
import Derived.Test.YtnmljalcndfjmaaGreatNG24
import Derived.Test.YtnmljalcndfjmaaGreatDrawWd0
import Derived.Deep.RegionHeld3
import Derived.Lib.SlBytesConst
namespace Go.Proofs.YtnmljalcndfjmaaGreat

section
open Go.RowKit Go.Deep
set_option linter.unusedVariables false
def holdsB (x:WD) (c:CN) (z:Int):Bool:=worldB x && (conOk c && (hasB x.n z && holdC x x.n.toNat c z.toNat))
set_option maxRecDepth 100000 in
set_option maxHeartbeats 8000000 in
theorem implHolds_any {na:Option Addr} {nn nc:Nat} {sa:Option Addr} {sn sc:Nat} {ra:Option Addr} {rn rc:Nat} {la:Option Addr} {ln lc:Nat} {ia:Option Addr} {im ic:Nat} {ta:Option Addr} {tn tc:Nat} {x:WD} {d:Nat} {v:Value} {c:CN} {w:World} {lo hi lo' G:Nat} {nx z:Int} (h:RdW lo hi w na nn nc sa sn sc ra rn rc la ln lc ia im ic ta tn tc x) (hc:RdC lo' G w d v c) (hn:x.n=nx) (ax:hi≤w.heap.size) (ag:G≤w.heap.size) (ak:c.bulk≤1048576) :
    Calls Tryz.prog 14 #[.agg #[.int .i64 nx,.slice na nn nc,.slice sa sn sc,.slice ra rn rc,.slice la ln lc,.slice ia im ic,.slice ta tn tc],v,.int .i64 z] w fun r w'=>r=.returned (.bool (holdsB x c z))∧Below w.heap.size w w':=by
 obtain ⟨k,R,N,O,J,H,I,Y,T,X,rfl⟩:=hc.shape;obtain ⟨W0,a2⟩:∃ W0,W0=(w.alloc (.cells #[.int .i64 nx,.slice na nn nc,.slice sa sn sc,.slice ra rn rc,.slice la ln lc,.slice ia im ic,.slice ta tn tc] 27)).alloc (.cells #[.int .i64 k,.slice R N O,.slice J H I,.slice Y T X] 30):=⟨_,rfl⟩;have az:Hid (W0=(w.alloc (.cells #[.int .i64 nx,.slice na nn nc,.slice sa sn sc,.slice ra rn rc,.slice la ln lc,.slice ia im ic,.slice ta tn tc] 27)).alloc (.cells #[.int .i64 k,.slice R N O,.slice J H I,.slice Y T X] 30)):=a2;have ar:W0.heap.size=w.heap.size+2:=by rw [a2];simp
 have a6:Below w.heap.size w W0:=by rw [a2];exact ((Below.refl _ _).alloc (Nat.le_refl _) _).alloc (by simp) _
 have aj:BoxW 27 W0 w.heap.size nx (.slice na nn nc) (.slice sa sn sc) (.slice ra rn rc) (.slice la ln lc) (.slice ia im ic) (.slice ta tn tc):=by rw [a2];exact (BoxW.new _ w _ _ _ _ _ _ _).below ((Below.refl _ _).alloc (Nat.le_refl _) _) (by simp)
 have ay:BoxC W0 (w.heap.size+1) (.int .i64 k) (.slice R N O) (.slice J H I) (.slice Y T X):=by
  rw [a2];have:=BoxC.new (w.alloc (.cells #[.int .i64 nx,.slice na nn nc,.slice sa sn sc,.slice ra rn rc,.slice la ln lc,.slice ia im ic,.slice ta tn tc] 27)) (.int .i64 k) (.slice R N O) (.slice J H I) (.slice Y T X)
  rwa [World.size_alloc] at this
 have aH:Hid (Below w.heap.size w W0):=a6;have ap:Hid (∀ {V:World},Below W0.heap.size W0 V→Below w.heap.size w V):=fun {V} hV=>a6.trans (hV.mono (by omega))
 have ab:Hid (∀ V,Below W0.heap.size W0 V→RdW lo hi V na nn nc sa sn sc ra rn rc la ln lc ia im ic ta tn tc x∧hi≤V.heap.size∧RdC lo' G V d (.agg #[.int .i64 k,.slice R N O,.slice J H I,.slice Y T X]) c∧G≤V.heap.size):=fun V hV=>⟨(h.below a6 ax).below hV (by omega),by have:=hV.size;omega,(hc.below a6 ag).below hV (by omega),by have:=hV.size;omega⟩
 have ad:Hid (∀ V,Below W0.heap.size W0 V→(V.cell? ⟨w.heap.size,0,none⟩=some (.int .i64 nx)∧V.cell? ⟨w.heap.size,1,none⟩=some (.slice na nn nc)∧V.cell? ⟨w.heap.size,2,none⟩=some (.slice sa sn sc)∧V.cell? ⟨w.heap.size,3,none⟩=some (.slice ra rn rc)∧V.cell? ⟨w.heap.size,4,none⟩=some (.slice la ln lc)∧V.cell? ⟨w.heap.size,5,none⟩=some (.slice ia im ic)∧V.cell? ⟨w.heap.size,6,none⟩=some (.slice ta tn tc))∧(V.cell? ⟨w.heap.size+1,0,none⟩=some (.int .i64 k)∧V.cell? ⟨w.heap.size+1,1,none⟩=some (.slice R N O)∧V.cell? ⟨w.heap.size+1,2,none⟩=some (.slice J H I)∧V.cell? ⟨w.heap.size+1,3,none⟩=some (.slice Y T X))):=fun V hV=>⟨(aj.below hV (by omega)).cells,(ay.below hV (by omega)).cells⟩
 have HN:Hid (x.n=nx):=hn;obtain ⟨⟨z0,z1,z2,z3,z4,z5,z6⟩,y0,y1,y2,y3⟩:=ad.out W0 (Below.refl _ _);have ae:Hid (c.bulk≤1048576):=ak;clear h hc hn a6 aj a2 ak;go_enter Tryz.func14, Tryz.ntmps14;go_upto_region 1 with fail;rw [← az.out];go_wp2_with fail;refine (sceneOf_any (ab.out _ (Below.refl _ _)).1 HN.out (ab.out _ (Below.refl _ _)).2.1).mono ?_;rintro e wA ⟨rfl,hA⟩;have a7:Hid (Below W0.heap.size W0 wA):=hA;have aD:=hA.size;have aF:w.heap.size+1<wA.heap.size:=by omega
 clear hA ar;clear z0 z1 z2 z3 z4 z5 z6 y0 y1 y2 y3;obtain ⟨⟨z0,z1,z2,z3,z4,z5,z6⟩,y0,y1,y2,y3⟩:=ad.out wA a7.out;cases hok:worldB x
 · have HG:Hid (holdsB x c z=false):=by unfold Hid holdsB;rw [hok];rfl
   rw [show ∀ u v,whichV false u v=v from fun _ _=>rfl];obtain ⟨U,hU⟩:∃ U,U=wA.alloc (.cells #[.int .i64 0,.slice none 0 0,.slice none 0 0,.int .i64 0,.slice none 0 0,.slice none 0 0,.slice none 0 0,.slice none 0 0,.slice none 0 0,.slice none 0 0] 74):=⟨_,rfl⟩;have HU:Hid (U=wA.alloc (.cells #[.int .i64 0,.slice none 0 0,.slice none 0 0,.int .i64 0,.slice none 0 0,.slice none 0 0,.slice none 0 0,.slice none 0 0,.slice none 0 0,.slice none 0 0] 74)):=hU;have aC:Hid (Below w.heap.size w U.drew):=by unfold Hid;rw [hU];exact (ap.out (a7.out.alloc a7.out.size _)).drew
   clear hok hU;go_upto_region 2 with fail;rw [← HU.out]
   first | go_region | fail
   all_goals
    go_wp2_with fail;go_ret;exact ⟨rb HG.out.symm,aC.out⟩
 rw [show ∀ u v,whichV true u v=u from fun _ _=>rfl];obtain ⟨U,hU⟩:∃ U,U=wA.alloc (.cells #[.int .i64 nx,.slice ia im ic,.slice ta tn tc,.int .i64 nx,.slice na nn nc,.slice sa sn sc,.slice ra rn rc,.slice la ln lc,.slice ia im ic,.slice ta tn tc] 74):=⟨_,rfl⟩;have HU:Hid (U=wA.alloc (.cells #[.int .i64 nx,.slice ia im ic,.slice ta tn tc,.int .i64 nx,.slice na nn nc,.slice sa sn sc,.slice ra rn rc,.slice la ln lc,.slice ia im ic,.slice ta tn tc] 74)):=hU;have aa:BoxS U wA.heap.size (.int .i64 nx) (.slice ia im ic) (.slice ta tn tc) (.int .i64 nx) (.slice na nn nc) (.slice sa sn sc) (.slice ra rn rc) (.slice la ln lc) (.slice ia im ic) (.slice ta tn tc):=by rw [hU];exact BoxS.new wA _ _ _ _ _ _ _ _ _ _
 have a3:Hid (Below W0.heap.size W0 U):=by unfold Hid;rw [hU];exact a7.out.alloc a7.out.size _
 have af:Hid (∀ {V:World},Below U.heap.size U V→Below w.heap.size w V):=fun {V} hV=>ap.out (a3.out.trans (hV.mono a3.out.size))
 have a0:Hid (∀ V,Below U.heap.size U V→(V.cell? ⟨wA.heap.size,0,none⟩=some (.int .i64 nx)∧V.cell? ⟨wA.heap.size,1,none⟩=some (.slice ia im ic)∧V.cell? ⟨wA.heap.size,2,none⟩=some (.slice ta tn tc)∧V.cell? ⟨wA.heap.size,3,none⟩=some (.int .i64 nx)∧V.cell? ⟨wA.heap.size,4,none⟩=some (.slice na nn nc)∧V.cell? ⟨wA.heap.size,5,none⟩=some (.slice sa sn sc)∧V.cell? ⟨wA.heap.size,6,none⟩=some (.slice ra rn rc)∧V.cell? ⟨wA.heap.size,7,none⟩=some (.slice la ln lc)∧V.cell? ⟨wA.heap.size,8,none⟩=some (.slice ia im ic)∧V.cell? ⟨wA.heap.size,9,none⟩=some (.slice ta tn tc))∧(V.cell? ⟨w.heap.size+1,0,none⟩=some (.int .i64 k)∧V.cell? ⟨w.heap.size+1,1,none⟩=some (.slice R N O)∧V.cell? ⟨w.heap.size+1,2,none⟩=some (.slice J H I)∧V.cell? ⟨w.heap.size+1,3,none⟩=some (.slice Y T X))):=fun V hV=>⟨(aa.below hV aa.lt).cells,(ad.out V (a3.out.trans (hV.mono a3.out.size))).2⟩
 have E:Hid (∀ V,Below U.heap.size U V→RdW lo hi V na nn nc sa sn sc ra rn rc la ln lc ia im ic ta tn tc x∧hi≤V.heap.size∧RdC lo' G V d (.agg #[.int .i64 k,.slice R N O,.slice J H I,.slice Y T X]) c∧G≤V.heap.size):=fun V hV=>ab.out V (a3.out.trans (hV.mono a3.out.size))
 have D:Hid (Below U.heap.size U U.drew):=(Below.refl _ _).drew;have aB:Hid (worldB x=true):=hok;clear z0 z1 z2 z3 z4 z5 z6 y0 y1 y2 y3;obtain ⟨⟨m0,m1,m2,m3,m4,m5,m6,m7,m8,m9⟩,y0,y1,y2,y3⟩:=a0.out U (Below.refl _ _);clear hU aa;cases a1:conOk c
 · have HG:Hid (holdsB x c z=false):=by unfold Hid holdsB;rw [hok,a1];rfl
   clear hok;go_upto_region 2 with fail;rw [← HU.out]
   first | go_region_with (go_at_call 32;refine (implConOk_any (E.out _ D.out).2.2.1 (E.out _ D.out).2.2.2 ae.out).mono ?_;rintro e wB ⟨rfl,hq⟩;rw [a1];have F:Hid (Below U.heap.size U wB):=D.out.trans (hq.mono D.out.size);clear hq;clear m0 m1 m2 m3 m4 m5 m6 m7 m8 m9 y0 y1 y2 y3;obtain ⟨⟨m0,m1,m2,m3,m4,m5,m6,m7,m8,m9⟩,y0,y1,y2,y3⟩:=a0.out _ F.out;go_wp2_with fail;(refine wpAny_take (i:=4) (v:=(.bool false)) rfl (by kernel_rfl) (by kernel_rfl) (by kernel_rfl) (fun _ _ _ h=>h) (Or.inl ⟨by rfl,fun w=>by first | rfl | go_simp⟩) ?_;try simp only [List.getElem_toArray,List.getElem_cons_succ,List.getElem_cons_zero,Act.put,List.setIfInBounds_toArray,List.set_cons_zero,List.set_cons_succ]);(refine wpAny_take (i:=5) (v:=(.bool false)) rfl (by kernel_rfl) (by kernel_rfl) (by kernel_rfl) (fun _ _ _ h=>h) (Or.inl ⟨by rfl,fun w=>by first | rfl | go_simp⟩) ?_;try simp only [List.getElem_toArray,List.getElem_cons_succ,List.getElem_cons_zero,Act.put,List.setIfInBounds_toArray,List.set_cons_zero,List.set_cons_succ]);(refine wpAny_take (i:=6) (v:=undef) rfl (by kernel_rfl) (by kernel_rfl) (by kernel_rfl) (fun _ _ _ h=>h) (Or.inr ⟨by rfl,rfl⟩) ?_;try simp only [List.getElem_toArray,List.getElem_cons_succ,List.getElem_cons_zero,Act.put,List.setIfInBounds_toArray,List.set_cons_zero,List.set_cons_succ]);(refine wpAny_take (i:=7) (v:=undef) rfl (by kernel_rfl) (by kernel_rfl) (by kernel_rfl) (fun _ _ _ h=>h) (Or.inr ⟨by rfl,rfl⟩) ?_;try simp only [List.getElem_toArray,List.getElem_cons_succ,List.getElem_cons_zero,Act.put,List.setIfInBounds_toArray,List.set_cons_zero,List.set_cons_succ]);(refine wpAny_take (i:=8) (v:=undef) rfl (by kernel_rfl) (by kernel_rfl) (by kernel_rfl) (fun _ _ _ h=>h) (Or.inr ⟨by rfl,rfl⟩) ?_;try simp only [List.getElem_toArray,List.getElem_cons_succ,List.getElem_cons_zero,Act.put,List.setIfInBounds_toArray,List.set_cons_zero,List.set_cons_succ]);(refine wpAny_all (rs:=[9]) (by kernel_rfl) (by simp) ?_;intro a9 y;(have A:=List.mem_singleton.1 y);subst A;clear y;refine Yields.wpOp (v:=undef) rfl (Or.inr ⟨by rfl,rfl⟩) ?_;try simp only [List.getElem_toArray,List.getElem_cons_succ,List.getElem_cons_zero,Act.put,List.setIfInBounds_toArray,List.set_cons_zero,List.set_cons_succ]);(refine wpAny_take (i:=10) (v:=(.bool false)) rfl (by kernel_rfl) (by kernel_rfl) (by kernel_rfl) (fun _ _ _ h=>h) (Or.inl ⟨by rfl,fun w=>by first | rfl | go_simp⟩) ?_;try simp only [List.getElem_toArray,List.getElem_cons_succ,List.getElem_cons_zero,Act.put,List.setIfInBounds_toArray,List.set_cons_zero,List.set_cons_succ]);(refine wpAny_take (i:=11) (v:=(.bool false)) rfl (by kernel_rfl) (by kernel_rfl) (by kernel_rfl) (fun _ _ _ h=>h) (Or.inl ⟨by rfl,fun w=>by first | rfl | go_simp⟩) ?_;try simp only [List.getElem_toArray,List.getElem_cons_succ,List.getElem_cons_zero,Act.put,List.setIfInBounds_toArray,List.set_cons_zero,List.set_cons_succ]);(refine wpAny_take (i:=12) (v:=undef) rfl (by kernel_rfl) (by kernel_rfl) (by kernel_rfl) (fun _ _ _ h=>h) (Or.inr ⟨by rfl,rfl⟩) ?_;try simp only [List.getElem_toArray,List.getElem_cons_succ,List.getElem_cons_zero,Act.put,List.setIfInBounds_toArray,List.set_cons_zero,List.set_cons_succ]);(refine wpAny_take (i:=13) (v:=undef) rfl (by kernel_rfl) (by kernel_rfl) (by kernel_rfl) (fun _ _ _ h=>h) (Or.inr ⟨by rfl,rfl⟩) ?_;try simp only [List.getElem_toArray,List.getElem_cons_succ,List.getElem_cons_zero,Act.put,List.setIfInBounds_toArray,List.set_cons_zero,List.set_cons_succ]);(refine wpAny_take (i:=16) (v:=undef) rfl (by kernel_rfl) (by kernel_rfl) (by kernel_rfl) (fun _ _ _ h=>h) (Or.inr ⟨by rfl,rfl⟩) ?_;try simp only [List.getElem_toArray,List.getElem_cons_succ,List.getElem_cons_zero,Act.put,List.setIfInBounds_toArray,List.set_cons_zero,List.set_cons_succ]);(refine wpAny_all (rs:=[14]) (by kernel_rfl) (by simp) ?_;intro a9 y;(have A:=List.mem_singleton.1 y);subst A;clear y;refine Yields.wpOp (v:=undef) rfl (Or.inr ⟨by rfl,rfl⟩) ?_;try simp only [List.getElem_toArray,List.getElem_cons_succ,List.getElem_cons_zero,Act.put,List.setIfInBounds_toArray,List.set_cons_zero,List.set_cons_succ]);(refine wpAny_all (rs:=[15]) (by kernel_rfl) (by simp) ?_;intro a9 y;(have A:=List.mem_singleton.1 y);subst A;clear y;refine Yields.wpOp (v:=undef) rfl (Or.inr ⟨by rfl,rfl⟩) ?_;try simp only [List.getElem_toArray,List.getElem_cons_succ,List.getElem_cons_zero,Act.put,List.setIfInBounds_toArray,List.set_cons_zero,List.set_cons_succ]);(refine wpAny_take (i:=17) (v:=undef) rfl (by kernel_rfl) (by kernel_rfl) (by kernel_rfl) (fun _ _ _ h=>h) (Or.inr ⟨by rfl,rfl⟩) ?_;try simp only [List.getElem_toArray,List.getElem_cons_succ,List.getElem_cons_zero,Act.put,List.setIfInBounds_toArray,List.set_cons_zero,List.set_cons_succ]);(refine wpAny_take (i:=18) (v:=undef) rfl (by kernel_rfl) (by kernel_rfl) (by kernel_rfl) (fun _ _ _ h=>h) (Or.inr ⟨by rfl,rfl⟩) ?_;try simp only [List.getElem_toArray,List.getElem_cons_succ,List.getElem_cons_zero,Act.put,List.setIfInBounds_toArray,List.set_cons_zero,List.set_cons_succ])) | fail
   all_goals
    go_wp2_with fail;go_ret;exact ⟨rb HG.out.symm,af.out F.out⟩
 cases a5:hasB nx z
 · have HG:Hid (holdsB x c z=false):=by unfold Hid holdsB;rw [hok,a1,HN.out,a5];rfl
   clear hok;go_upto_region 2 with fail;rw [← HU.out]
   first | go_region_with (first | (go_at_call 32;refine (implConOk_any (E.out _ D.out).2.2.1 (E.out _ D.out).2.2.2 ae.out).mono ?_;rintro e wB ⟨rfl,hq⟩;rw [a1];have F:Hid (Below U.heap.size U wB):=D.out.trans (hq.mono D.out.size);clear hq;clear m0 m1 m2 m3 m4 m5 m6 m7 m8 m9 y0 y1 y2 y3;obtain ⟨⟨m0,m1,m2,m3,m4,m5,m6,m7,m8,m9⟩,y0,y1,y2,y3⟩:=a0.out _ F.out) | (go_at_call 42;refine (has_any _ _ wB).mono ?_;rintro e wC ⟨rfl,hq⟩;rw [a5];have Z:Hid (Below U.heap.size U wC):=F.out.trans (hq.mono F.out.size);clear hq;clear m0 m1 m2 m3 m4 m5 m6 m7 m8 m9 y0 y1 y2 y3;obtain ⟨⟨m0,m1,m2,m3,m4,m5,m6,m7,m8,m9⟩,y0,y1,y2,y3⟩:=a0.out _ Z.out;go_wp2_with fail;(refine wpAny_take (i:=10) (v:=(.bool false)) rfl (by kernel_rfl) (by kernel_rfl) (by kernel_rfl) (fun _ _ _ h=>h) (Or.inl ⟨by rfl,fun w=>by first | rfl | go_simp⟩) ?_;try simp only [List.getElem_toArray,List.getElem_cons_succ,List.getElem_cons_zero,Act.put,List.setIfInBounds_toArray,List.set_cons_zero,List.set_cons_succ]);(refine wpAny_take (i:=11) (v:=(.bool false)) rfl (by kernel_rfl) (by kernel_rfl) (by kernel_rfl) (fun _ _ _ h=>h) (Or.inl ⟨by rfl,fun w=>by first | rfl | go_simp⟩) ?_;try simp only [List.getElem_toArray,List.getElem_cons_succ,List.getElem_cons_zero,Act.put,List.setIfInBounds_toArray,List.set_cons_zero,List.set_cons_succ]);(refine wpAny_take (i:=12) (v:=undef) rfl (by kernel_rfl) (by kernel_rfl) (by kernel_rfl) (fun _ _ _ h=>h) (Or.inr ⟨by rfl,rfl⟩) ?_;try simp only [List.getElem_toArray,List.getElem_cons_succ,List.getElem_cons_zero,Act.put,List.setIfInBounds_toArray,List.set_cons_zero,List.set_cons_succ]);(refine wpAny_take (i:=13) (v:=undef) rfl (by kernel_rfl) (by kernel_rfl) (by kernel_rfl) (fun _ _ _ h=>h) (Or.inr ⟨by rfl,rfl⟩) ?_;try simp only [List.getElem_toArray,List.getElem_cons_succ,List.getElem_cons_zero,Act.put,List.setIfInBounds_toArray,List.set_cons_zero,List.set_cons_succ]);(refine wpAny_take (i:=16) (v:=undef) rfl (by kernel_rfl) (by kernel_rfl) (by kernel_rfl) (fun _ _ _ h=>h) (Or.inr ⟨by rfl,rfl⟩) ?_;try simp only [List.getElem_toArray,List.getElem_cons_succ,List.getElem_cons_zero,Act.put,List.setIfInBounds_toArray,List.set_cons_zero,List.set_cons_succ]);(refine wpAny_all (rs:=[14]) (by kernel_rfl) (by simp) ?_;intro a9 y;(have A:=List.mem_singleton.1 y);subst A;clear y;refine Yields.wpOp (v:=undef) rfl (Or.inr ⟨by rfl,rfl⟩) ?_;try simp only [List.getElem_toArray,List.getElem_cons_succ,List.getElem_cons_zero,Act.put,List.setIfInBounds_toArray,List.set_cons_zero,List.set_cons_succ]);(refine wpAny_all (rs:=[15]) (by kernel_rfl) (by simp) ?_;intro a9 y;(have A:=List.mem_singleton.1 y);subst A;clear y;refine Yields.wpOp (v:=undef) rfl (Or.inr ⟨by rfl,rfl⟩) ?_;try simp only [List.getElem_toArray,List.getElem_cons_succ,List.getElem_cons_zero,Act.put,List.setIfInBounds_toArray,List.set_cons_zero,List.set_cons_succ]);(refine wpAny_take (i:=17) (v:=undef) rfl (by kernel_rfl) (by kernel_rfl) (by kernel_rfl) (fun _ _ _ h=>h) (Or.inr ⟨by rfl,rfl⟩) ?_;try simp only [List.getElem_toArray,List.getElem_cons_succ,List.getElem_cons_zero,Act.put,List.setIfInBounds_toArray,List.set_cons_zero,List.set_cons_succ]);(refine wpAny_take (i:=18) (v:=undef) rfl (by kernel_rfl) (by kernel_rfl) (by kernel_rfl) (fun _ _ _ h=>h) (Or.inr ⟨by rfl,rfl⟩) ?_;try simp only [List.getElem_toArray,List.getElem_cons_succ,List.getElem_cons_zero,Act.put,List.setIfInBounds_toArray,List.set_cons_zero,List.set_cons_succ]))) | fail
   all_goals
    go_wp2_with fail;go_ret;exact ⟨rb HG.out.symm,af.out Z.out⟩
 have hz:=a5;unfold hasB at hz;rw [decide_eq_true_eq] at hz;obtain ⟨q,HQ⟩:∃ q:Nat,Hid (z=(q:Int)):=⟨z.toNat,by unfold Hid;omega⟩;obtain ⟨L,ac⟩:∃ L:Nat,Hid (nx=(L:Int)):=⟨nx.toNat,by unfold Hid;omega⟩;have au:q<L:=by have h1:=HQ.out;have h2:=ac.out;omega
 have aq:z=(q:Int):=HQ.out;have av:nx=(L:Int):=ac.out;subst aq;subst av;have a8:1≤L∧L≤128:=by have h1:=((worldB_iff x).1 hok).1.1;rw [HN.out] at h1;omega
 have HG:Hid (holdsB x c (q:Int)=holdC x L c q):=by unfold Hid holdsB;rw [hok,a1,HN.out,a5];simp
 have ao:Hid (wfC c=true):=wfC_of_ok a1;have aE:(q:Int)<(L:Int):=by omega
 clear hz HQ ac hok;go_upto_region 2 with fail;rw [← HU.out]
 first | go_region_with (first | (go_at_call 32;refine (implConOk_any (E.out _ D.out).2.2.1 (E.out _ D.out).2.2.2 ae.out).mono ?_;rintro e wB ⟨rfl,hq⟩;rw [a1];have F:Hid (Below U.heap.size U wB):=D.out.trans (hq.mono D.out.size);clear hq;clear m0 m1 m2 m3 m4 m5 m6 m7 m8 m9 y0 y1 y2 y3;obtain ⟨⟨m0,m1,m2,m3,m4,m5,m6,m7,m8,m9⟩,y0,y1,y2,y3⟩:=a0.out _ F.out) | (go_at_call 42;refine (has_any _ _ wB).mono ?_;rintro e wC ⟨rfl,hq⟩;rw [a5];have Z:Hid (Below U.heap.size U wC):=F.out.trans (hq.mono F.out.size);clear hq;clear m0 m1 m2 m3 m4 m5 m6 m7 m8 m9 y0 y1 y2 y3;obtain ⟨⟨m0,m1,m2,m3,m4,m5,m6,m7,m8,m9⟩,y0,y1,y2,y3⟩:=a0.out _ Z.out) | (go_at_call 44;refine (claimOf_any d _ c wC lo' G (E.out wC Z.out).2.2.1 (E.out wC Z.out).2.2.2 ao.out).mono ?_;rintro e wD ⟨vq,rfl,hq,am⟩;obtain ⟨qt,qz,rfl⟩:=hq.iface;have aA:Hid (RdQ (fun b=>b<wD.heap.size) lo' G wD d (.iface qt qz) c):=hq.keep (fun b hb=>⟨hb.2,rfl⟩) (fun _ _ _=>rfl);have a4:Hid (Below U.heap.size U wD):=Z.out.trans (am.mono Z.out.size);clear hq am;clear m0 m1 m2 m3 m4 m5 m6 m7 m8 m9 y0 y1 y2 y3;obtain ⟨⟨m0,m1,m2,m3,m4,m5,m6,m7,m8,m9⟩,y0,y1,y2,y3⟩:=a0.out _ a4.out) | (go_at_call 43;refine (hqP_any aB.out HN.out a8 d _ c wD wD.heap.size lo' G aA.out (Nat.le_refl _) (E.out wD a4.out).2.2.2 (E.out wD a4.out).1 (E.out wD a4.out).2.1 ao.out).mono ?_;rintro e wE ⟨fb,fo,fc,rfl,ai,ah,al⟩;have an:Hid (Below U.heap.size U wE):=a4.out.trans (al.mono a4.out.size);have f0:=ah.2 q au;have aG:=ai.1;clear ai ah al;clear m0 m1 m2 m3 m4 m5 m6 m7 m8 m9 y0 y1 y2 y3;obtain ⟨⟨m0,m1,m2,m3,m4,m5,m6,m7,m8,m9⟩,y0,y1,y2,y3⟩:=a0.out _ an.out)) | fail
 all_goals
  go_wp2_with fail;go_ret;exact ⟨rb HG.out.symm,af.out an.out⟩
end

section
open Go.RowKit
def wdA:WD:=⟨1,[[65]],[[true]],[],[],[],[]⟩
theorem wdA_ok:worldB wdA=true:=by kernel_rfl
theorem readConA:(conRead (numsOf { data:=#[65] })).1=CN.mk 2 [65] [] []:=by kernel_rfl
theorem readConNA:(conRead (numsOf { data:=#[78,111,116,40,65,41] })).1=CN.mk 3 [] [] [CN.mk 2 [65] [] []]:=by kernel_rfl
theorem goodA:goodT (numsOf { data:=#[65] })=true:=by kernel_rfl
theorem goodNA:goodT (numsOf { data:=#[78,111,116,40,65,41] })=true:=by kernel_rfl
theorem holdA:holdsB wdA (CN.mk 2 [65] [] []) 0=true:=by kernel_rfl
theorem holdNA:holdsB wdA (CN.mk 3 [] [] [CN.mk 2 [65] [] []]) 0=false:=by kernel_rfl
theorem inSetA:inSetB wdA [65] 0=true:=by kernel_rfl
theorem wcAt (W:World) (g:Nat) (x:Int) (h:g=W.heap.size):(convert 22 22 (.slice (some ⟨g,0,none⟩) 1 1)).run Tryz.prog (W.alloc (.cells #[.int .u8 x] 5))=.ok (.slice (some ⟨g,0,none⟩) 1 1) (W.alloc (.cells #[.int .u8 x] 5 (1,2))) :=
 by subst h;exact Lib.run_convert_bytes_const W 22 5 #[.int .u8 x] 1 1 Tryz.underlying22 Tryz.underlying5
theorem litA (w:World):Rd w.heap.size (w.heap.size+1) (w.alloc (.cells #[.int .u8 65] 5 (1,2))) (some ⟨w.heap.size,0,none⟩) 1 1 [65]:=rd_lits w [65] (1,2) (by simp) (byteLit (by decide))
theorem litA_size (w:World):w.heap.size+1≤(w.alloc (.cells #[.int .u8 65] 5 (1,2))).heap.size:=by simp
theorem boxAt {t:Nat} {W:World} {k:Nat} {m:Int} {x1 x2 x3 x4 x5 x6:Value} (h:k=W.heap.size):BoxW t (W.alloc (.cells #[.int .i64 m,x1,x2,x3,x4,x5,x6] t)) k m x1 x2 x3 x4 x5 x6:=by subst h;exact BoxW.new _ W _ _ _ _ _ _ _
theorem wdA_rd (w V:World) (h0:V.heap[w.heap.size]?=some (.cells #[.int .u8 65] 5 (1,2))) (h1:V.heap[w.heap.size+1]?=some (.cells #[.slice (some ⟨w.heap.size,0,none⟩) 1 1] 22 (0,0)))
    (h2:V.heap[w.heap.size+2]?=some (.cells #[.bool true] 4 (0,0))) (h3:V.heap[w.heap.size+3]?=some (.cells #[.slice (some ⟨w.heap.size+2,0,none⟩) 1 1] 63 (0,0))):RdW 0 V.heap.size V (some ⟨w.heap.size+1,0,none⟩) 1 1 (some ⟨w.heap.size+3,0,none⟩) 1 1 none 0 0 none 0 0 none 0 0 none 0 0 wdA:=by
 have l0:=(Array.getElem?_eq_some_iff.1 h0).1;have l1:=(Array.getElem?_eq_some_iff.1 h1).1;have l2:=(Array.getElem?_eq_some_iff.1 h2).1;have l3:=(Array.getElem?_eq_some_iff.1 h3).1;have c0:V.cell? ⟨w.heap.size,0+0,none⟩=some (.int .u8 65):=by simp [World.cell?,h0]
 have c1:V.cell? ⟨w.heap.size+1,0+0,none⟩=some (.slice (some ⟨w.heap.size,0,none⟩) 1 1):=by simp [World.cell?,h1]
 have c2:V.cell? ⟨w.heap.size+2,0+0,none⟩=some (.bool true):=by simp [World.cell?,h2]
 have c3:V.cell? ⟨w.heap.size+3,0+0,none⟩=some (.slice (some ⟨w.heap.size+2,0,none⟩) 1 1):=by simp [World.cell?,h3]
 have r0:Rd 0 V.heap.size V (some ⟨w.heap.size,0,none⟩) 1 1 [65]:=by
  refine ⟨rfl,by omega,fun i=>?_,.inr ⟨_,_,rfl,Nat.zero_le _,l0,fun i hi=>?_⟩⟩
  · match i with
    | 0=>exact ⟨by decide,by decide⟩
    | i+1=>exact ⟨by simp,by simp⟩
  have:i=0:=by omega
  subst this;exact c0
 have r2:RB 0 V.heap.size V (some ⟨w.heap.size+2,0,none⟩) 1 1 [true]:=by
  refine ⟨rfl,by omega,.inr ⟨_,_,rfl,Nat.zero_le _,l2,fun i hi=>?_⟩⟩;have:i=0:=by omega
  subst this;exact ⟨_,c2,rfl⟩
 refine ⟨⟨rfl,by omega,.inr ⟨_,_,rfl,Nat.zero_le _,l1,fun i hi=>?_⟩⟩,⟨rfl,by omega,.inr ⟨_,_,rfl,Nat.zero_le _,l3,fun i hi=>?_⟩⟩,⟨rfl,by omega,.inl rfl⟩,⟨rfl,by omega,.inl rfl⟩,⟨rfl,by omega,.inl rfl⟩,⟨rfl,by omega,.inl rfl⟩⟩
 · have:i=0:=by omega
   subst this;exact ⟨_,c1,_,_,_,rfl,r0⟩
 have:i=0:=by omega
 subst this;exact ⟨_,c3,_,_,_,rfl,r2⟩
set_option maxRecDepth 100000 in
set_option maxHeartbeats 8000000 in
theorem worlds_any (w:World):Calls Tryz.prog 10 #[] w fun e w'=>e=.returned (.bool true)∧Below w.heap.size w w':=by
 have a1:=wcAt w w.heap.size 65 rfl;go_enter Tryz.func10, Tryz.ntmps10;go_upto_region 2 with fail;refine Code.wp_name (fun W1 q=>?_);simp only [Nat.add_assoc,Nat.reduceAdd] at q ⊢;have a4:W1.heap.size=w.heap.size+5:=by rw [q];simp
 have Z:W1.heap[w.heap.size]?=some (.cells #[.int .u8 65] 5 (1,2)):=by
  rw [q]
  repeat rw [allocOld (by first | (simp;done) | (simp;omega))]
  exact allocAt (by simp)
 have Y:W1.heap[w.heap.size+1]?=some (.cells #[.slice (some ⟨w.heap.size,0,none⟩) 1 1] 22 (0,0)):=by
  rw [q]
  repeat rw [allocOld (by first | (simp;done) | (simp;omega))]
  exact allocAt (by simp)
 have E:W1.heap[w.heap.size+2]?=some (.cells #[.bool true] 4 (0,0)):=by
  rw [q]
  repeat rw [allocOld (by first | (simp;done) | (simp;omega))]
  exact allocAt (by simp)
 have D:W1.heap[w.heap.size+3]?=some (.cells #[.slice (some ⟨w.heap.size+2,0,none⟩) 1 1] 63 (0,0)):=by
  rw [q]
  repeat rw [allocOld (by first | (simp;done) | (simp;omega))]
  exact allocAt (by simp)
 have O:BoxW 27 W1 (w.heap.size+4) 1 (.slice (some ⟨w.heap.size+1,0,none⟩) 1 1) (.slice (some ⟨w.heap.size+3,0,none⟩) 1 1) (.slice none 0 0) (.slice none 0 0) (.slice none 0 0) (.slice none 0 0):=by
  rw [q];exact boxAt (by simp)
 have a0:Hid (Below w.heap.size w W1):=by
  unfold Hid;rw [q];refine Below.alloc (Below.alloc (Below.alloc (Below.alloc (Below.alloc (Below.refl _ _) ?_ _) ?_ _) ?_ _) ?_ _) ?_ _ <;> first | (simp;done) | (simp;omega)
 have A:Hid (∀ V,Below W1.heap.size W1 V→V.cell? ⟨w.heap.size+4,0,none⟩=some (.int .i64 1)∧V.cell? ⟨w.heap.size+4,1,none⟩=some (.slice (some ⟨w.heap.size+1,0,none⟩) 1 1)∧V.cell? ⟨w.heap.size+4,2,none⟩=some (.slice (some ⟨w.heap.size+3,0,none⟩) 1 1)∧V.cell? ⟨w.heap.size+4,3,none⟩=some (.slice none 0 0)∧V.cell? ⟨w.heap.size+4,4,none⟩=some (.slice none 0 0)∧V.cell? ⟨w.heap.size+4,5,none⟩=some (.slice none 0 0)∧V.cell? ⟨w.heap.size+4,6,none⟩=some (.slice none 0 0)):=fun V hV=>(O.below hV (by omega)).cells
 have y:Hid (∀ V,Below W1.heap.size W1 V→RdW 0 W1.heap.size V (some ⟨w.heap.size+1,0,none⟩) 1 1 (some ⟨w.heap.size+3,0,none⟩) 1 1 none 0 0 none 0 0 none 0 0 none 0 0 wdA∧W1.heap.size≤V.heap.size):=fun V hV=>⟨(wdA_rd w W1 Z Y E D).below hV (Nat.le_refl _),hV.size⟩
 have a5:Hid (∀ V,Below W1.heap.size W1 V→Below w.heap.size w V):=fun V hV=>a0.out.trans (hV.mono a0.out.size)
 have Hd:Hid (Below W1.heap.size W1 W1.drew):=(Below.refl _ _).drew;have H:wdA.n=1:=rfl;have a3:({ data:=#[78,111,116,40,65,41] }:ByteArray).size≤255:=by decide
 have N:({ data:=#[65] }:ByteArray).size≤255:=by decide
 have G:(CN.mk 2 [65] [] []).bulk≤1048576:=by simp [CN.bulk,bulks]
 have F:(CN.mk 3 [] [] [CN.mk 2 [65] [] []]).bulk≤1048576:=by simp [CN.bulk,bulks]
 have aa:Hid ((CN.mk 2 [65] [] []).bulk≤1048576):=G;have a9:Hid ((CN.mk 3 [] [] [CN.mk 2 [65] [] []]).bulk≤1048576):=F;obtain ⟨z0,z1,z2,z3,z4,z5,z6⟩:=A.out _ Hd.out;clear O Z Y E D a4 q a1 G F
 first
 | go_region_with (first
  | (go_at_call 36;(with_reducible refine (implInSet_any (nx:=1) (z:=0) (y.out _ (H6.out.alloc H6.out.size _)).1 a6.out H (y.out _ (H6.out.alloc H6.out.size _)).2 a2).mono ?_);rintro e w8 ⟨he,R⟩;rw [inSetA] at he;subst he;have H8:Hid (Below W1.heap.size W1 w8):=(H6.out.alloc H6.out.size _).trans (R.mono (H6.out.alloc H6.out.size _).size);clear R)
  | (go_at_call 14;(with_reducible refine (implHolds_any (nx:=1) (z:=0) (y.out _ H5.out).1 a7.out H (y.out _ H5.out).2 (Nat.le_refl _) a9.out).mono ?_);rintro e w6 ⟨he,T⟩;rw [holdNA] at he;subst he;have H6:Hid (Below W1.heap.size W1 w6):=H5.out.trans (T.mono H5.out.size);have ac:=wcAt w6 w6.heap.size 65 rfl;have a6:Hid (Rd w6.heap.size (w6.heap.size+1) (w6.alloc (.cells #[.int .u8 65] 5 (1,2))) (some ⟨w6.heap.size,0,none⟩) 1 1 [65]):=litA w6;have a2:=litA_size w6;clear T z0 z1 z2 z3 z4 z5 z6;obtain ⟨z0,z1,z2,z3,z4,z5,z6⟩:=A.out _ H6.out;have ab:w.heap.size+4<w6.heap.size:=World.block_lt_of_cell? w6 _ z0)
  | (go_at_call 14;(with_reducible refine (implHolds_any (nx:=1) (z:=0) (y.out _ H3.out).1 a8.out H (y.out _ H3.out).2 (Nat.le_refl _) aa.out).mono ?_);rintro e w4 ⟨he,X⟩;rw [holdA] at he;subst he;have H4:Hid (Below W1.heap.size W1 w4):=H3.out.trans (X.mono H3.out.size);clear X z0 z1 z2 z3 z4 z5 z6;obtain ⟨z0,z1,z2,z3,z4,z5,z6⟩:=A.out _ H4.out)
  | (go_at_call 35;(with_reducible refine (con_any { data:=#[78,111,116,40,65,41] } a3 goodNA w4).mono ?_);rintro e w5 ⟨v5,rfl,I,U⟩;rw [readConNA] at I;have a7:Hid (RdC w4.heap.size w5.heap.size w5 6 v5 (CN.mk 3 [] [] [CN.mk 2 [65] [] []])):=I;have H5:Hid (Below W1.heap.size W1 w5):=H4.out.trans (U.mono H4.out.size);clear I U z0 z1 z2 z3 z4 z5 z6;obtain ⟨z0,z1,z2,z3,z4,z5,z6⟩:=A.out _ H5.out)
  | (go_at_call 35;(with_reducible refine (con_any { data:=#[65] } N goodA w2).mono ?_);rintro e w3 ⟨v3,rfl,J,D⟩;rw [readConA] at J;have a8:Hid (RdC w2.heap.size w3.heap.size w3 6 v3 (CN.mk 2 [65] [] [])):=J;have H3:Hid (Below W1.heap.size W1 w3):=H2.out.trans (D.mono H2.out.size);clear J D z0 z1 z2 z3 z4 z5 z6;obtain ⟨z0,z1,z2,z3,z4,z5,z6⟩:=A.out _ H3.out)
  | (go_at_call 28;(with_reducible refine (implWorldOk_any (nx:=1) (y.out _ Hd.out).1 H (y.out _ Hd.out).2).mono ?_);rintro e w2 ⟨he,E⟩;rw [wdA_ok] at he;subst he;have H2:Hid (Below W1.heap.size W1 w2):=Hd.out.trans (E.mono Hd.out.size);clear E z0 z1 z2 z3 z4 z5 z6;obtain ⟨z0,z1,z2,z3,z4,z5,z6⟩:=A.out _ H2.out))
 | fail
 all_goals
  go_wp2;go_ret;exact ⟨rfl,a5.out _ H8.out⟩
end

end Go.Proofs.YtnmljalcndfjmaaGreat
