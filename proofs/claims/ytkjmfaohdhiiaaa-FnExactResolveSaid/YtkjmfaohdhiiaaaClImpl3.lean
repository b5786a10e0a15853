/- The program's ClauseOk: a contract. -/
import Derived.Test.YtkjmfaohdhiiaaaNG4
namespace Go.Proofs.Ytkjmfaohdhiiaaa
open Go.RowKit
def BoxS (W:World) (q:Nat) (wd:ByteArray) (bf br bu bx by' bi bp:Bool):Prop:=W.heap[q]?=some (.cells #[.string wd,.bool bf,.bool br,.bool bu,.bool bx,.bool by',.bool bi,.bool bp] 69 (0,0))
theorem BoxS.new (W:World) (wd:ByteArray) (bf br bu bx by' bi bp:Bool):BoxS (W.alloc (.cells #[.string wd,.bool bf,.bool br,.bool bu,.bool bx,.bool by',.bool bi,.bool bp] 69)) W.heap.size wd bf br bu bx by' bi bp:=World.alloc_heap_new W _
theorem BoxS.below {W W':World} {q B:Nat} {wd:ByteArray} {bf br bu bx by' bi bp:Bool} (h:BoxS W q wd bf br bu bx by' bi bp) (hb:Below B W W') (hB:q<B):BoxS W' q wd bf br bu bx by' bi bp:=(hb.block q hB).trans h
theorem BoxS.cells {W:World} {q:Nat} {wd:ByteArray} {bf br bu bx by' bi bp:Bool} (h:BoxS W q wd bf br bu bx by' bi bp) :
    W.cell? ⟨q,0,none⟩=some (.string wd)∧W.cell? ⟨q,1,none⟩=some (.bool bf)∧W.cell? ⟨q,2,none⟩=some (.bool br)∧W.cell? ⟨q,3,none⟩=some (.bool bu)∧W.cell? ⟨q,4,none⟩=some (.bool bx)∧W.cell? ⟨q,5,none⟩=some (.bool by')∧W.cell? ⟨q,6,none⟩=some (.bool bi)∧W.cell? ⟨q,7,none⟩=some (.bool bp):=by
 unfold BoxS at h;refine ⟨?_,?_,?_,?_,?_,?_,?_,?_⟩ <;> simp [World.cell?,h]
set_option maxRecDepth 100000 in
set_option maxHeartbeats 4000000 in
theorem implClauseOk_any {k f r u xp xn yp yn:Int} {ia:Option Addr} {im ic:Nat} {a b:Int} {xs:List (Int × Int)} {w:World} {lo hi:Nat} (h:RP lo hi w ia im ic xs) (O:hi≤w.heap.size) :
    Calls Try.prog 15 #[.agg #[.int .i64 k,.int .i64 f,.int .i64 r,.int .i64 u,.int .i64 xp,.int .i64 xn,.int .i64 yp,.int .i64 yn,.slice ia im ic,.int .i64 a,.int .i64 b]] w fun e w'=>e=.returned (.bool (clauseB k f r u xp xn yp yn xs a b))∧Below w.heap.size w w':=by
 obtain ⟨W,hW⟩:∃ W,W=w.alloc (.cells #[.int .i64 k,.int .i64 f,.int .i64 r,.int .i64 u,.int .i64 xp,.int .i64 xn,.int .i64 yp,.int .i64 yn,.slice ia im ic,.int .i64 a,.int .i64 b] 32):=⟨_,rfl⟩;have HW:Hid (W=w.alloc (.cells #[.int .i64 k,.int .i64 f,.int .i64 r,.int .i64 u,.int .i64 xp,.int .i64 xn,.int .i64 yp,.int .i64 yn,.slice ia im ic,.int .i64 a,.int .i64 b] 32)):=hW;have I:Below w.heap.size w W:=by rw [hW];exact (Below.refl _ _).alloc (Nat.le_refl _) _
 have a9:Hid (Below w.heap.size w W):=I;have R:BoxK 32 W w.heap.size k f r u xp xn yp yn (.slice ia im ic) a b:=by rw [hW];exact BoxK.new _ w _ _ _ _ _ _ _ _ _ _ _
 have HX:Hid (∀ V,Below W.heap.size W V→BoxK 32 V w.heap.size k f r u xp xn yp yn (.slice ia im ic) a b):=fun V hV=>R.below hV R.lt
 have a8:Hid (∀ V,Below W.heap.size W V→RP lo hi V ia im ic xs∧hi≤V.heap.size):=fun V hV=>⟨(h.below I O).below hV (Nat.le_trans O I.size),Nat.le_trans O (Nat.le_trans I.size hV.size)⟩
 have a3:∀ V:World,(Instr.build 29 #[]).run Try.prog V=.ok (.agg #[.int .i64 0,.int .i64 0]) V:=fun V=>run_build V _ _ _ (by kernel_rfl)
 obtain ⟨C,hC⟩:∃ C,C=clauseB k f r u xp xn yp yn xs a b:=⟨_,rfl⟩;obtain ⟨kn,U⟩:∃ b,b=knownK k:=⟨_,rfl⟩;obtain ⟨wd,a4⟩:∃ b,b=wordK k:=⟨_,rfl⟩;obtain ⟨bf,a1⟩:∃ b,b=hasF k:=⟨_,rfl⟩;obtain ⟨br,Y⟩:∃ b,b=hasR k:=⟨_,rfl⟩;obtain ⟨bu,X⟩:∃ b,b=hasU k:=⟨_,rfl⟩;obtain ⟨bx,G⟩:∃ b,b=hasX k:=⟨_,rfl⟩;obtain ⟨by',F⟩:∃ b,b=hasY k:=⟨_,rfl⟩;obtain ⟨bi,a0⟩:∃ b,b=hasI k:=⟨_,rfl⟩;obtain ⟨bp,Z⟩:∃ b,b=hasP k:=⟨_,rfl⟩;have HV:Hid (shapeV k=#[.string wd,.bool bf,.bool br,.bool bu,.bool bx,.bool by',.bool bi,.bool bp]):=by unfold Hid;rw [shapeV,← a4,← a1,← Y,← X,← G,← F,← a0,← Z]
 have ae:Hid (kn=knownK k):=U
 have HC:Hid (C=(kn && (numB f 12 bf && (numB r 3 br && (numB u 3 bu && (numB a 4 bp && (numB b 4 bp && (parB xp xn bx && (parB yp yn by' && (indB xs bi && (!(decide (k=1)) || !(noneB yp yn)))))))))))):=by
  unfold Hid;rw [hC,U,a1,Y,X,Z,G,F,a0];rfl
 rw [← hC];obtain ⟨z0,z1,z2,z3,z4,z5,z6,z7,z8,z9,m⟩:=R.cells;clear hW I R h hC O U a4 a1 Y X G F a0 Z;go_enter Try.func15, Try.ntmps15;go_upto_region 1 with fail;rw [← HW.out];go_wp2_with fail;refine (shapeOf_any k W).mono ?_;rintro e w1 ⟨rfl,a6⟩;rw [HV.out,← ae.out];have H1:Hid (Below W.heap.size W w1):=a6;clear a6 z0 z1 z2 z3 z4 z5 z6 z7 z8 z9 m;obtain ⟨W2,J⟩:∃ W2,W2=w1.alloc (.cells #[.string wd,.bool bf,.bool br,.bool bu,.bool bx,.bool by',.bool bi,.bool bp] 69):=⟨_,rfl⟩;have a7:Hid (W2=w1.alloc (.cells #[.string wd,.bool bf,.bool br,.bool bu,.bool bx,.bool by',.bool bi,.bool bp] 69)):=J;have H2:Hid (Below W.heap.size W W2):=by unfold Hid;rw [J];exact H1.out.alloc H1.out.size _
 have a5:BoxS W2 w1.heap.size wd bf br bu bx by' bi bp:=by rw [J];exact BoxS.new _ _ _ _ _ _ _ _ _
 have ab:w1.heap.size<W2.heap.size:=by rw [J];simp
 have HS:Hid (∀ V,Below W2.heap.size W2 V→BoxS V w1.heap.size wd bf br bu bx by' bi bp):=fun V hV=>a5.below hV ab
 have t:Hid (Below W2.heap.size W2 W2):=Below.refl _ _;obtain ⟨z0,z1,z2,z3,z4,z5,z6,z7,z8,z9,m⟩:=(HX.out _ H1.out).cells;have af:w.heap.size<w1.heap.size:=Nat.lt_of_lt_of_le (by rw [HW.out];simp) H1.out.size;clear J a5;have d:Hid (∀ V,Below W2.heap.size W2 V→Below w.heap.size w V):=fun V hV=>a9.out.trans ((H2.out.trans (hV.mono H2.out.size)).mono a9.out.size)
 cases kn with
 | false =>
  go_wp2_with fail
  all_goals
   go_ret;exact ⟨rb (by rw [HC.out];rfl),by rw [← a7.out];exact d.out _ t.out⟩
 | true =>
 go_wp2_with fail;refine (numberFits_any f 12 bf _).mono ?_;rintro e w' ⟨rfl,hw⟩;rw [hw,← a7.out];clear hw;clear z0 z1 z2 z3 z4 z5 z6 z7 z8 z9 m;obtain ⟨z0,z1,z2,z3,z4,z5,z6,z7,z8,z9,m⟩:=(HX.out _ H2.out).cells;obtain ⟨s0,s1,s2,s3,s4,s5,s6,s7⟩:=(HS.out _ t.out).cells;obtain ⟨u1,hu⟩:∃ uu,uu=numB f 12 bf:=⟨_,rfl⟩;rw [← hu];have o:Hid (u1=numB f 12 bf):=hu;clear hu;cases u1 with
 | false =>
  go_wp2_with fail
  all_goals
   go_ret;exact ⟨rb (by rw [HC.out,← o.out];rfl),d.out _ t.out⟩
 | true =>
 go_wp2_with fail;refine (numberFits_any r 3 br W2).mono ?_;rintro e w' ⟨rfl,hw⟩;rw [hw];clear hw;obtain ⟨u2,hu⟩:∃ uu,uu=numB r 3 br:=⟨_,rfl⟩;rw [← hu];have s:Hid (u2=numB r 3 br):=hu;clear hu;cases u2 with
 | false =>
  go_wp2_with fail
  all_goals
   go_ret;exact ⟨rb (by rw [HC.out,← o.out,← s.out];rfl),d.out _ t.out⟩
 | true =>
 go_wp2_with fail;refine (numberFits_any u 3 bu W2).mono ?_;rintro e w' ⟨rfl,hw⟩;rw [hw];clear hw;obtain ⟨u3,hu⟩:∃ uu,uu=numB u 3 bu:=⟨_,rfl⟩;rw [← hu];have z:Hid (u3=numB u 3 bu):=hu;clear hu;cases u3 with
 | false =>
  go_wp2_with fail
  all_goals
   go_ret;exact ⟨rb (by rw [HC.out,← o.out,← s.out,← z.out];rfl),d.out _ t.out⟩
 | true =>
 go_wp2_with fail;refine (numberFits_any a 4 bp W2).mono ?_;rintro e w' ⟨rfl,hw⟩;rw [hw];clear hw;obtain ⟨u4,hu⟩:∃ uu,uu=numB a 4 bp:=⟨_,rfl⟩;rw [← hu];have E:Hid (u4=numB a 4 bp):=hu;clear hu;cases u4 with
 | false =>
  go_wp2_with fail
  all_goals
   go_ret;exact ⟨rb (by rw [HC.out,← o.out,← s.out,← z.out,← E.out];rfl),d.out _ t.out⟩
 | true =>
 go_wp2_with fail;refine (numberFits_any b 4 bp W2).mono ?_;rintro e w' ⟨rfl,hw⟩;rw [hw];clear hw;obtain ⟨u5,hu⟩:∃ uu,uu=numB b 4 bp:=⟨_,rfl⟩;rw [← hu];have H:Hid (u5=numB b 4 bp):=hu;clear hu;cases u5 with
 | false =>
  go_wp2_with fail
  all_goals
   go_ret;exact ⟨rb (by rw [HC.out,← o.out,← s.out,← z.out,← E.out,← H.out];rfl),d.out _ t.out⟩
 | true =>
 go_wp2_with fail;refine (partFits_any xp xn bx W2).mono ?_;rintro e v6 ⟨rfl,hb⟩;have L:Hid (Below W2.heap.size W2 v6):=t.out.trans (hb.mono t.out.size);clear hb z0 z1 z2 z3 z4 z5 z6 z7 z8 z9 m s0 s1 s2 s3 s4 s5 s6 s7;obtain ⟨z0,z1,z2,z3,z4,z5,z6,z7,z8,z9,m⟩:=(HX.out _ (H2.out.trans (L.out.mono H2.out.size))).cells;obtain ⟨s0,s1,s2,s3,s4,s5,s6,s7⟩:=(HS.out _ L.out).cells;obtain ⟨u6,hu⟩:∃ uu,uu=parB xp xn bx:=⟨_,rfl⟩;rw [← hu];have M:Hid (u6=parB xp xn bx):=hu;clear hu;cases u6 with
 | false =>
  go_wp2_with fail
  all_goals
   go_ret;exact ⟨rb (by rw [HC.out,← o.out,← s.out,← z.out,← E.out,← H.out,← M.out];rfl),d.out _ L.out⟩
 | true =>
 go_wp2_with fail;refine (partFits_any yp yn by' v6).mono ?_;rintro e v7 ⟨rfl,hb⟩;have D:Hid (Below W2.heap.size W2 v7):=L.out.trans (hb.mono L.out.size);clear hb z0 z1 z2 z3 z4 z5 z6 z7 z8 z9 m s0 s1 s2 s3 s4 s5 s6 s7;obtain ⟨z0,z1,z2,z3,z4,z5,z6,z7,z8,z9,m⟩:=(HX.out _ (H2.out.trans (D.out.mono H2.out.size))).cells;obtain ⟨s0,s1,s2,s3,s4,s5,s6,s7⟩:=(HS.out _ D.out).cells;obtain ⟨u7,hu⟩:∃ uu,uu=parB yp yn by':=⟨_,rfl⟩
 rw [← hu];have T:Hid (u7=parB yp yn by'):=hu;clear hu;cases u7 with
 | false =>
  go_wp2_with fail
  all_goals
   go_ret;exact ⟨rb (by rw [HC.out,← o.out,← s.out,← z.out,← E.out,← H.out,← M.out,← T.out];rfl),d.out _ D.out⟩
 | true =>
 go_wp2_with fail;refine (indsFit_any (a8.out _ (H2.out.trans (D.out.mono H2.out.size))).1 (a8.out _ (H2.out.trans (D.out.mono H2.out.size))).2 bi).mono ?_;rintro e v8 ⟨rfl,hb⟩;have A:Hid (Below W2.heap.size W2 v8):=D.out.trans (hb.mono D.out.size);clear hb z0 z1 z2 z3 z4 z5 z6 z7 z8 z9 m s0 s1 s2 s3 s4 s5 s6 s7;obtain ⟨z0,z1,z2,z3,z4,z5,z6,z7,z8,z9,m⟩:=(HX.out _ (H2.out.trans (A.out.mono H2.out.size))).cells;obtain ⟨s0,s1,s2,s3,s4,s5,s6,s7⟩:=(HS.out _ A.out).cells;obtain ⟨u8,hu⟩:∃ uu,uu=indB xs bi:=⟨_,rfl⟩;rw [← hu];have a2:Hid (u8=indB xs bi):=hu;clear hu;cases u8 with
 | false =>
  go_wp2_with fail
  all_goals
   go_ret;exact ⟨rb (by rw [HC.out,← o.out,← s.out,← z.out,← E.out,← H.out,← M.out,← T.out,← a2.out];rfl),d.out _ A.out⟩
 | true =>
 by_cases hk:k=1
 · have ad:(k != 1)=false:=by simp [hk]
   have HE:Hid (C=!(noneB yp yn)):=by unfold Hid;rw [HC.out,← o.out,← s.out,← z.out,← E.out,← H.out,← M.out,← T.out,← a2.out];simp [hk]
   clear hk;by_cases hy:yp=0
   · have aa:(yp == 0)=true:=by simp [hy]
     by_cases hn:yn=0
     · have ac:(yn == 0)=true:=by simp [hn]
       have N:Hid (C=false):=by unfold Hid;rw [HE.out];simp [noneB,hy,hn]
       clear hy hn HE;go_wp2_with fail;go_ret;exact ⟨rb N.out.symm,d.out _ A.out⟩
     have ac:(yn == 0)=false:=by simpa using hn
     have N:Hid (C=true):=by unfold Hid;rw [HE.out];simp [noneB,hn]
     clear hy hn HE;go_wp2_with fail;go_ret;exact ⟨rb N.out.symm,d.out _ A.out⟩
   have aa:(yp == 0)=false:=by simpa using hy
   have N:Hid (C=true):=by unfold Hid;rw [HE.out];simp [noneB,hy]
   clear hy HE;go_wp2_with fail;go_ret;exact ⟨rb N.out.symm,d.out _ A.out⟩
 have ad:(k != 1)=true:=by simpa using hk
 have HE:Hid (C=true):=by unfold Hid;rw [HC.out,← o.out,← s.out,← z.out,← E.out,← H.out,← M.out,← T.out,← a2.out];simp [hk]
 clear hk;go_wp2_with fail;go_ret;exact ⟨rb HE.out.symm,d.out _ A.out⟩
end Go.Proofs.Ytkjmfaohdhiiaaa
