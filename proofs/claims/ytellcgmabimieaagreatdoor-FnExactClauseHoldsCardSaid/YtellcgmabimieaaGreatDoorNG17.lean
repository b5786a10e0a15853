/- Several texts in one: ClsS2, ClsI2. -/
import Derived.Test.YtellcgmabimieaaGreatDoorNG14
import Derived.Test.YtellcgmabimieaaGreatDoorConTo
import Derived.Test.YtellcgmabimieaaGreatDoorNG10
import Derived.Test.YtellcgmabimieaaGreatDoorLitTell
import Derived.Test.YtellcgmabimieaaGreatDoorConOkImpl
namespace Go.Proofs.YtellcgmabimieaaGreatDoor

section
open Go.RowKit
theorem all_take {α:Type} {p:α→Bool} {d:α} {l:List α} {n:Nat} (hl:l.length=n) (h:∀ m,m<n→p (l.getD m d)=true):l.all p=true:=by
 rw [List.all_eq_true];intro x hx;obtain ⟨i,hi,rfl⟩:=List.mem_iff_getElem.1 hx;have:=h i (by omega)
 rwa [List.getD_eq_getElem?_getD,List.getElem?_eq_getElem hi] at this
theorem all_not {α:Type} {p:α→Bool} {d:α} {l:List α} {m:Nat} (hm:m<l.length) (h:p (l.getD m d)=false):l.all p=false:=by
 rw [List.all_eq_false];refine ⟨l.getD m d,?_,by rw [h];simp⟩;rw [List.getD_eq_getElem?_getD,List.getElem?_eq_getElem hm];exact List.getElem_mem _
set_option maxRecDepth 100000 in
set_option maxHeartbeats 4000000 in
theorem l6names_any {aa:Option Addr} {an ac:Nat} {ra:Option Addr} {rn rc:Nat} {wa:Option Addr} {wn wc:Nat} {la:Option Addr} {ln lc:Nat} {k f r u xp xn yp yn:Int} {ia:Option Addr} {im ic:Nat} {a b:Int} {xs:List (Int × Int)} {w:World} {lo hi:Nat} (hR:RP lo hi w ia im ic xs) (Y:hi≤w.heap.size) (hn:an≤24) :
    Calls Tryz.prog 27 #[.agg #[.slice aa an ac,.slice ra rn rc,.slice wa wn wc,.slice la ln lc],.agg #[.int .i64 k,.int .i64 f,.int .i64 r,.int .i64 u,.int .i64 xp,.int .i64 xn,.int .i64 yp,.int .i64 yn,.slice ia im ic,.int .i64 a,.int .i64 b]] w fun e w'=>e=.returned (.bool (nameB an rn ⟨k,f,r,u,xp,xn,yp,yn,xs,a,b⟩))∧Below w.heap.size w w':=by
 obtain ⟨W,hW⟩:∃ W,W=(w.alloc (.cells #[.slice aa an ac,.slice ra rn rc,.slice wa wn wc,.slice la ln lc] 46)).alloc (.cells #[.int .i64 k,.int .i64 f,.int .i64 r,.int .i64 u,.int .i64 xp,.int .i64 xn,.int .i64 yp,.int .i64 yn,.slice ia im ic,.int .i64 a,.int .i64 b] 51):=⟨_,rfl⟩;have HW:Hid (W=(w.alloc (.cells #[.slice aa an ac,.slice ra rn rc,.slice wa wn wc,.slice la ln lc] 46)).alloc (.cells #[.int .i64 k,.int .i64 f,.int .i64 r,.int .i64 u,.int .i64 xp,.int .i64 xn,.int .i64 yp,.int .i64 yn,.slice ia im ic,.int .i64 a,.int .i64 b] 51)):=hW;have R:Below w.heap.size w W:=by rw [hW];exact ((Below.refl _ _).alloc (Nat.le_refl _) _).alloc (by simp) _
 have a0:Hid (Below w.heap.size w W):=R;have N:Blk W w.heap.size 46 (.slice aa an ac) (.slice ra rn rc) (.slice wa wn wc) (.slice la ln lc):=by rw [hW];exact (Blk.alloc_new w _ _ _ _ _ _ rfl).alloc _
 have O:BoxK 51 W (w.heap.size+1) k f r u xp xn yp yn (.slice ia im ic) a b:=by
  have e:=BoxK.new 51 (w.alloc (.cells #[.slice aa an ac,.slice ra rn rc,.slice wa wn wc,.slice la ln lc] 46)) k f r u xp xn yp yn (.slice ia im ic) a b;rw [World.size_alloc] at e;rw [hW];exact e
 have HS:Hid (∀ V,Below W.heap.size W V→Blk V w.heap.size 46 (.slice aa an ac) (.slice ra rn rc) (.slice wa wn wc) (.slice la ln lc)):=fun V hV=>N.below hV N.lt
 have HK:Hid (∀ V,Below W.heap.size W V→BoxK 51 V (w.heap.size+1) k f r u xp xn yp yn (.slice ia im ic) a b):=fun V hV=>O.below hV O.lt
 have HR:Hid (∀ V,Below W.heap.size W V→RP lo hi V ia im ic xs):=fun V hV=>(hR.below R Y).below hV (Nat.le_trans Y R.size)
 have Z:Hid (xs.length=im):=hR.len;have a5:=hR.fits;have H0:Hid (Below W.heap.size W W):=Below.refl _ _;obtain ⟨z0,z1,z2,z3,_⟩:=N.cells;obtain ⟨y0,y1,y2,y3,y4,y5,y6,y7,y8,y9,z⟩:=O.cells;clear R hW N O hR;go_enter Tryz.func27, Tryz.ntmps27;go_upto_region 1 with fail;rw [← HW.out];go_wp2_with fail;go_loopw [6] (fun i wr=>∃ j:Nat,j≤im∧i=.int .i64 j∧(∀ m,m<j→smallB an (xs.getD m (0,0)).1 (xs.getD m (0,0)).2=true)∧Below W.heap.size W wr) (fun i _=>im - (intOf i).toNat)
 case atStart=>exact ⟨0,Nat.zero_le _,rfl,fun m hm=>absurd hm (by omega),H0.out⟩
 case round =>
  obtain ⟨j,hj,rfl,J,q⟩:=hrel;have a3:Hid (∀ m,m<j→smallB an (xs.getD m (0,0)).1 (xs.getD m (0,0)).2=true):=J;have HB:Hid (Below W.heap.size W wr):=q;have L:Hid (Below w.heap.size w wr):=a0.out.trans (q.mono a0.out.size);clear z0 z1 z2 z3 y0 y1 y2 y3 y4 y5 y6 y7 y8 y9 z;obtain ⟨z0,z1,z2,z3,_⟩:=(HS.out _ q).cells;obtain ⟨y0,y1,y2,y3,y4,y5,y6,y7,y8,y9,z⟩:=(HK.out _ q).cells;by_cases hlt:j<im
  · have a7:(j:Int)<(im:Int):=by omega
    have U:=HR.out _ q;rcases U.cells with h0 | ⟨bb,a6,e1,_,_,hc⟩
    · omega
    subst e1;obtain ⟨c1,c2⟩:=hc j hlt;obtain ⟨t,ht⟩:∃ t,t=xs.getD j (0,0):=⟨_,rfl⟩;have HT:Hid (t=xs.getD j (0,0)):=ht;rw [← ht] at c1 c2;obtain ⟨tp,tn⟩:=t;obtain ⟨vs,T⟩:∃ v,v=smallB an tp tn:=⟨_,rfl⟩;have HV:Hid (smallB an tp tn=vs):=T.symm;clear U hc J q ht T;go_wp2_with fail;refine (l6small_any tp tn an hn wr).mono ?_;rintro e w1 ⟨rfl,o⟩;rw [HV.out];have H1:Hid (Below W.heap.size W w1):=HB.out.trans (o.mono HB.out.size);have a4:Hid (Below w.heap.size w w1):=L.out.trans (o.mono L.out.size);clear o;cases vs with
    | true =>
     have HN:Hid (∀ m,m<j+1→smallB an (xs.getD m (0,0)).1 (xs.getD m (0,0)).2=true):=fun m hm=>by
      by_cases e:m=j
      · subst e;rw [← HT.out];exact HV.out
      exact a3.out m (by omega)
     go_wp2_with fail;go_roundw
     case rel=>exact ⟨j+1,by omega,by go_num,HN.out,H1.out⟩
     case measure=>simp [intOf];omega
    | false =>
     have HE:Hid (nameB an rn ⟨k,f,r,u,xp,xn,yp,yn,xs,a,b⟩=false):=by
      unfold Hid nameB;dsimp only;rw [all_not (m:=j) (d:=(0,0)) (by rw [Z.out];exact hlt) (by rw [← HT.out];exact HV.out)];rfl
     go_wp2_with fail;go_ret;exact ⟨rb HE.out.symm,a4.out⟩
  have G:Hid (xs.all (fun p=>smallB an p.1 p.2)=true):=all_take (d:=(0,0)) Z.out (fun m hm=>J m (by omega));clear J q;by_cases h2:2≤k
  · by_cases h5:k=5
    · have HN:Hid (needR k=false):=by unfold Hid needR;rw [decide_eq_true h5];simp
      have a1:(k != 5)=false:=by simp [h5]
      clear h5;go_wp2_with fail;refine (l6small_any xp xn an hn wr).mono ?_;rintro e w1 ⟨rfl,o⟩;have F:Hid (Below w.heap.size w w1):=L.out.trans (o.mono L.out.size);have H1:Hid (Below W.heap.size W w1):=HB.out.trans (o.mono HB.out.size);obtain ⟨vx,D⟩:∃ v,v=smallB an xp xn:=⟨_,rfl⟩;rw [← D];have HX:Hid (smallB an xp xn=vx):=D.symm;clear o D z0 z1 z2 z3 y0 y1 y2 y3 y4 y5 y6 y7 y8 y9 z;obtain ⟨z0,z1,z2,z3,_⟩:=(HS.out _ H1.out).cells;obtain ⟨y0,y1,y2,y3,y4,y5,y6,y7,y8,y9,z⟩:=(HK.out _ H1.out).cells;cases vx with
      | false =>
       have HE:Hid (nameB an rn ⟨k,f,r,u,xp,xn,yp,yn,xs,a,b⟩=false):=by unfold Hid nameB;dsimp only;rw [HX.out];simp
       go_wp2_with fail;go_ret;exact ⟨rb HE.out.symm,F.out⟩
      | true =>
       go_wp2_with fail;refine (l6small_any yp yn an hn w1).mono ?_;rintro e w2 ⟨rfl,E⟩;have I:Hid (Below w.heap.size w w2):=F.out.trans (E.mono F.out.size);have H2:Hid (Below W.heap.size W w2):=H1.out.trans (E.mono H1.out.size);obtain ⟨vy,A⟩:∃ v,v=smallB an yp yn:=⟨_,rfl⟩;rw [← A];have HY:Hid (smallB an yp yn=vy):=A.symm;clear E A z0 z1 z2 z3 y0 y1 y2 y3 y4 y5 y6 y7 y8 y9 z;obtain ⟨z0,z1,z2,z3,_⟩:=(HS.out _ H2.out).cells;obtain ⟨y0,y1,y2,y3,y4,y5,y6,y7,y8,y9,z⟩:=(HK.out _ H2.out).cells;cases vy with
       | false =>
        have HE:Hid (nameB an rn ⟨k,f,r,u,xp,xn,yp,yn,xs,a,b⟩=false):=by unfold Hid nameB;dsimp only;rw [HX.out,HY.out];simp
        go_wp2_with fail;go_ret;exact ⟨rb HE.out.symm,I.out⟩
       | true =>
        have HE:Hid (nameB an rn ⟨k,f,r,u,xp,xn,yp,yn,xs,a,b⟩=true):=by unfold Hid nameB roleOkB;dsimp only;rw [G.out,HX.out,HY.out,HN.out];rfl
        go_wp2_with fail;go_ret;exact ⟨rb HE.out.symm,I.out⟩
    have HN:Hid (needR k=true):=by unfold Hid needR;rw [decide_eq_true h2,decide_eq_false h5];rfl
    have a1:(k != 5)=true:=by simpa using h5
    clear h5;go_wp2_with fail;refine (l6small_any xp xn an hn wr).mono ?_;rintro e w1 ⟨rfl,o⟩;have F:Hid (Below w.heap.size w w1):=L.out.trans (o.mono L.out.size);have H1:Hid (Below W.heap.size W w1):=HB.out.trans (o.mono HB.out.size);obtain ⟨vx,D⟩:∃ v,v=smallB an xp xn:=⟨_,rfl⟩;rw [← D];have HX:Hid (smallB an xp xn=vx):=D.symm;clear o D z0 z1 z2 z3 y0 y1 y2 y3 y4 y5 y6 y7 y8 y9 z;obtain ⟨z0,z1,z2,z3,_⟩:=(HS.out _ H1.out).cells;obtain ⟨y0,y1,y2,y3,y4,y5,y6,y7,y8,y9,z⟩:=(HK.out _ H1.out).cells;cases vx with
    | false =>
     have HE:Hid (nameB an rn ⟨k,f,r,u,xp,xn,yp,yn,xs,a,b⟩=false):=by unfold Hid nameB;dsimp only;rw [HX.out];simp
     go_wp2_with fail;go_ret;exact ⟨rb HE.out.symm,F.out⟩
    | true =>
     go_wp2_with fail;refine (l6small_any yp yn an hn w1).mono ?_;rintro e w2 ⟨rfl,E⟩;have I:Hid (Below w.heap.size w w2):=F.out.trans (E.mono F.out.size);have H2:Hid (Below W.heap.size W w2):=H1.out.trans (E.mono H1.out.size);obtain ⟨vy,A⟩:∃ v,v=smallB an yp yn:=⟨_,rfl⟩;rw [← A];have HY:Hid (smallB an yp yn=vy):=A.symm;clear E A z0 z1 z2 z3 y0 y1 y2 y3 y4 y5 y6 y7 y8 y9 z;obtain ⟨z0,z1,z2,z3,_⟩:=(HS.out _ H2.out).cells;obtain ⟨y0,y1,y2,y3,y4,y5,y6,y7,y8,y9,z⟩:=(HK.out _ H2.out).cells;cases vy with
     | false =>
      have HE:Hid (nameB an rn ⟨k,f,r,u,xp,xn,yp,yn,xs,a,b⟩=false):=by unfold Hid nameB;dsimp only;rw [HX.out,HY.out];simp
      go_wp2_with fail;go_ret;exact ⟨rb HE.out.symm,I.out⟩
     | true =>
      by_cases hr:r<(rn:Int)
      · have M:decide (r<(rn:Int))=true:=decide_eq_true hr;by_cases h4:k=4
        · have HE:Hid (nameB an rn ⟨k,f,r,u,xp,xn,yp,yn,xs,a,b⟩=decide (u<(rn:Int))):=by unfold Hid nameB roleOkB;dsimp only;rw [G.out,HX.out,HY.out,HN.out,M,decide_eq_true h4];simp
          have a2:(k != 4)=false:=by simp [h4]
          clear h4 M;go_wp2_with fail;go_ret;exact ⟨rb HE.out.symm,I.out⟩
        have HE:Hid (nameB an rn ⟨k,f,r,u,xp,xn,yp,yn,xs,a,b⟩=true):=by unfold Hid nameB roleOkB;dsimp only;rw [G.out,HX.out,HY.out,HN.out,M,decide_eq_false h4];simp
        have a2:(k != 4)=true:=by simpa using h4
        clear h4 M;go_wp2_with fail;go_ret;exact ⟨rb HE.out.symm,I.out⟩
      have HE:Hid (nameB an rn ⟨k,f,r,u,xp,xn,yp,yn,xs,a,b⟩=false):=by unfold Hid nameB roleOkB;dsimp only;rw [G.out,HX.out,HY.out,HN.out,decide_eq_false hr];simp
      have M:decide (r<(rn:Int))=false:=decide_eq_false hr;clear hr;go_wp2_with fail;go_ret;exact ⟨rb HE.out.symm,I.out⟩
  have HN:Hid (needR k=false):=by unfold Hid needR;rw [decide_eq_false h2];rfl
  have a8:decide (2≤k)=false:=decide_eq_false h2;clear h2;go_wp2_with fail;refine (l6small_any xp xn an hn wr).mono ?_;rintro e w1 ⟨rfl,o⟩;have F:Hid (Below w.heap.size w w1):=L.out.trans (o.mono L.out.size);have H1:Hid (Below W.heap.size W w1):=HB.out.trans (o.mono HB.out.size);obtain ⟨vx,D⟩:∃ v,v=smallB an xp xn:=⟨_,rfl⟩;rw [← D];have HX:Hid (smallB an xp xn=vx):=D.symm;clear o D z0 z1 z2 z3 y0 y1 y2 y3 y4 y5 y6 y7 y8 y9 z;obtain ⟨z0,z1,z2,z3,_⟩:=(HS.out _ H1.out).cells;obtain ⟨y0,y1,y2,y3,y4,y5,y6,y7,y8,y9,z⟩:=(HK.out _ H1.out).cells;cases vx with
  | false =>
   have HE:Hid (nameB an rn ⟨k,f,r,u,xp,xn,yp,yn,xs,a,b⟩=false):=by unfold Hid nameB;dsimp only;rw [HX.out];simp
   go_wp2_with fail;go_ret;exact ⟨rb HE.out.symm,F.out⟩
  | true =>
   go_wp2_with fail;refine (l6small_any yp yn an hn w1).mono ?_;rintro e w2 ⟨rfl,E⟩;have I:Hid (Below w.heap.size w w2):=F.out.trans (E.mono F.out.size);have H2:Hid (Below W.heap.size W w2):=H1.out.trans (E.mono H1.out.size);obtain ⟨vy,A⟩:∃ v,v=smallB an yp yn:=⟨_,rfl⟩;rw [← A];have HY:Hid (smallB an yp yn=vy):=A.symm;clear E A z0 z1 z2 z3 y0 y1 y2 y3 y4 y5 y6 y7 y8 y9 z;obtain ⟨z0,z1,z2,z3,_⟩:=(HS.out _ H2.out).cells;obtain ⟨y0,y1,y2,y3,y4,y5,y6,y7,y8,y9,z⟩:=(HK.out _ H2.out).cells;cases vy with
   | false =>
    have HE:Hid (nameB an rn ⟨k,f,r,u,xp,xn,yp,yn,xs,a,b⟩=false):=by unfold Hid nameB;dsimp only;rw [HX.out,HY.out];simp
    go_wp2_with fail;go_ret;exact ⟨rb HE.out.symm,I.out⟩
   | true =>
    have HE:Hid (nameB an rn ⟨k,f,r,u,xp,xn,yp,yn,xs,a,b⟩=true):=by unfold Hid nameB roleOkB;dsimp only;rw [G.out,HX.out,HY.out,HN.out];rfl
    go_wp2_with fail;go_ret;exact ⟨rb HE.out.symm,I.out⟩
end

section
open Go.RowKit Go.Shelf
attribute [local go_sem] Oper.semAt_some
attribute [local go_sem ↓] about_wide
theorem literals_in (n:Nat) {k f r u xp xn yp yn:Int} {ia:Option Addr} {im ic:Nat} {a b:Int} (w:World) :
    CallsIn Fence.wide n Tryz.prog 73 #[.agg #[.int .i64 k,.int .i64 f,.int .i64 r,.int .i64 u,.int .i64 xp,.int .i64 xn,.int .i64 yp,.int .i64 yn,.slice ia im ic,.int .i64 a,.int .i64 b]] w fun e w'=>e=.returned (.func (.func 104) #[] #[.pointer (some ⟨w.heap.size,0,none⟩)])∧w'=w.alloc (.cells #[.int .i64 k,.int .i64 f,.int .i64 r,.int .i64 u,.int .i64 xp,.int .i64 xn,.int .i64 yp,.int .i64 yn,.slice ia im ic,.int .i64 a,.int .i64 b] 51):=by
 refine callsIn_of_wp Tryz.func73 rfl trivial ?_ rfl;simp only [Tryz.ntmps73,List.size_toArray,List.length_cons,List.length_nil,Nat.reduceAdd,Nat.reduceSub,Array.replicate_succ,Array.replicate_zero,List.push_toArray,List.append_toArray,List.nil_append,List.cons_append]
 gi_wp2
 go_ret;exact ⟨rfl,rfl⟩
theorem clauseB_inds {k f r u xp xn yp yn a b:Int} {xs:List (Int × Int)} (h:clauseB k f r u xp xn yp yn xs a b=true):xs.length=0∨xs.length=4:=by
 unfold clauseB at h;simp only [Bool.and_eq_true] at h;obtain ⟨_,_,_,_,_,_,_,_,h,_⟩:=h;unfold indB at h
 split at h
 · simp only [Bool.and_eq_true,decide_eq_true_eq] at h;exact .inr h.1
 exact .inl (by simpa using h)
theorem partB_none {p n:Int} (h:noneB p n=true):partB p n=true:=by
 obtain ⟨rfl,rfl⟩:=noneB_iff.1 h;rfl
theorem clauseB_parts {k f r u xp xn yp yn a b:Int} {xs:List (Int × Int)} (h:clauseB k f r u xp xn yp yn xs a b=true):∀ x∈six xp xn yp yn xs,partB x.1 x.2=true:=by
 have hl:=clauseB_inds h;unfold clauseB at h;simp only [Bool.and_eq_true] at h;obtain ⟨_,_,_,_,_,_,hx,hy,hi,_⟩:=h
 have h1:partB xp xn=true:=by
  unfold parB at hx
  split at hx
  · exact hx
  exact partB_none hx
 have h2:partB yp yn=true:=by
  unfold parB at hy
  split at hy
  · exact hy
  exact partB_none hy
 have h3:∀ j,partB (xs.getD j (0,0)).1 (xs.getD j (0,0)).2=true:=by
  intro j;by_cases hj:j<xs.length
  · unfold indB at hi
    split at hi
    · simp only [Bool.and_eq_true,decide_eq_true_eq,List.all_eq_true] at hi;exact hi.2 _ (by rw [List.getD_eq_getElem?_getD,List.getElem?_eq_getElem hj];exact List.getElem_mem _)
    have:xs.length=0:=by simpa using hi
    omega
  rw [List.getD_eq_getElem?_getD,List.getElem?_eq_none (by omega)];rfl
 intro x hx;simp only [six,List.mem_cons,List.not_mem_nil,or_false] at hx;rcases hx with rfl | rfl | rfl | rfl | rfl | rfl
 · exact h1
 · exact h2
 · exact h3 0
 · exact h3 1
 · exact h3 2
 exact h3 3
set_option maxRecDepth 100000 in
set_option maxHeartbeats 2000000 in
theorem clauseFits_no {aa:Option Addr} {an ac:Nat} {ra:Option Addr} {rn rc:Nat} {wa:Option Addr} {wn wc:Nat} {la:Option Addr} {ln lc:Nat} {k f r u xp xn yp yn:Int} {ia:Option Addr} {im ic:Nat} {a b:Int} {xs:List (Int × Int)} {w:World} {lo hi:Nat} (hR:RP lo hi w ia im ic xs) (J:hi≤w.heap.size) (G:clauseB k f r u xp xn yp yn xs a b=false) :
    Calls Tryz.prog 38 #[.agg #[.int .i64 k,.int .i64 f,.int .i64 r,.int .i64 u,.int .i64 xp,.int .i64 xn,.int .i64 yp,.int .i64 yn,.slice ia im ic,.int .i64 a,.int .i64 b],.agg #[.slice aa an ac,.slice ra rn rc,.slice wa wn wc,.slice la ln lc]] w fun e w'=>e=.returned (.bool (fitK an rn ⟨k,f,r,u,xp,xn,yp,yn,xs,a,b⟩))∧Below w.heap.size w w':=by
 obtain ⟨W,hW⟩:∃ W,W=((w.alloc (.cells #[.int .i64 k,.int .i64 f,.int .i64 r,.int .i64 u,.int .i64 xp,.int .i64 xn,.int .i64 yp,.int .i64 yn,.slice ia im ic,.int .i64 a,.int .i64 b] 51)).alloc (.cells #[.slice aa an ac,.slice ra rn rc,.slice wa wn wc,.slice la ln lc] 46)).alloc (.cells #[.bool false] 4):=⟨_,rfl⟩;have HW:Hid (W=((w.alloc (.cells #[.int .i64 k,.int .i64 f,.int .i64 r,.int .i64 u,.int .i64 xp,.int .i64 xn,.int .i64 yp,.int .i64 yn,.slice ia im ic,.int .i64 a,.int .i64 b] 51)).alloc (.cells #[.slice aa an ac,.slice ra rn rc,.slice wa wn wc,.slice la ln lc] 46)).alloc (.cells #[.bool false] 4)):=hW;have E:Below w.heap.size w W:=by rw [hW];exact (((Below.refl _ _).alloc (Nat.le_refl _) _).alloc (by simp) _).alloc (by simp;omega) _
 have F:Hid (Below w.heap.size w W):=E;have L:w.heap.size+1+1<W.heap.size:=by rw [hW];simp
 have I:BoxK 51 W w.heap.size k f r u xp xn yp yn (.slice ia im ic) a b:=by rw [hW];exact ((BoxK.new _ w _ _ _ _ _ _ _ _ _ _ _).below ((Below.refl _ _).alloc (Nat.le_refl _) _) (by simp)).below ((Below.refl _ _).alloc (Nat.le_refl _) _) (by simp;omega)
 have A:Boxed W (w.heap.size+1+1) 4 (.bool false):=by
  have:=Boxed.new ((w.alloc (.cells #[.int .i64 k,.int .i64 f,.int .i64 r,.int .i64 u,.int .i64 xp,.int .i64 xn,.int .i64 yp,.int .i64 yn,.slice ia im ic,.int .i64 a,.int .i64 b] 51)).alloc (.cells #[.slice aa an ac,.slice ra rn rc,.slice wa wn wc,.slice la ln lc] 46)) 4 (.bool false);rw [World.size_alloc,World.size_alloc] at this;rw [hW];exact this
 have V:Hid (Boxed W (w.heap.size+1+1) 4 (.bool false)):=A;have HE:Hid (fitK an rn ⟨k,f,r,u,xp,xn,yp,yn,xs,a,b⟩=false):=by unfold Hid fitK okK;dsimp only;rw [G];rfl
 have HR:Hid (RP lo hi W ia im ic xs):=hR.below E J;obtain ⟨y0,y1,y2,y3,y4,y5,y6,y7,y8,y9,R⟩:=I.cells;clear hW I hR E;go_enter Tryz.func38, Tryz.ntmps38;go_upto_region 1 with fail;rw [← HW.out];go_wp2_with fail;refine (implClauseOk_any HR.out (Nat.le_trans J F.out.size)).mono ?_;rintro e w1 ⟨rfl,D⟩;rw [G];have z:=boxed_below A D L;have O:Hid (Below w.heap.size w w1):=F.out.trans (D.mono F.out.size);have N:Hid (Boxed w1 (w.heap.size+1+1) 4 (.bool false)):=z;have cR:=Boxed.cell z;have fR:=Boxed.frozen z;clear D z A;go_wp2_with fail;have cS:=Boxed.cell (Boxed.set (.bool false) N.out);refine bodyPost_ret (v:=.bool false) (by simp [results, Tryz.results38,go_sem,cS]) rfl ⟨rb HE.out.symm,O.out.setCell (p:=⟨w.heap.size+1+1,0,none⟩) (by show w.heap.size≤w.heap.size+1+1;omega) _⟩
theorem mem_litsTo (i p n:Nat) (x:LT):∀ k,x∈litsTo i p n k ↔ ∃ a,a<k∧((p.testBit a=true∧x=⟨i,a,false⟩)∨(n.testBit a=true∧x=⟨i,a,true⟩))
 | 0=>by simp [litsTo]
 | k+1=>by
  rw [litsTo,List.mem_append,mem_litsTo i p n x k];constructor
  · rintro (⟨a,h1,h2⟩ | h)
    · exact ⟨a,by omega,h2⟩
    unfold litAt at h;rw [List.mem_append] at h;rcases h with h | h
    · split at h
      · rename_i hb;exact ⟨k,by omega,.inl ⟨hb,by simpa using h⟩⟩
      simp at h
    split at h
    · rename_i hb;exact ⟨k,by omega,.inr ⟨hb,by simpa using h⟩⟩
    simp at h
  rintro ⟨a,h1,h2⟩;by_cases e:a=k
  · subst e;refine .inr ?_;unfold litAt;rw [List.mem_append];rcases h2 with ⟨hb,rfl⟩ | ⟨hb,rfl⟩
    · exact .inl (by rw [if_pos hb];simp)
    exact .inr (by rw [if_pos hb];simp)
  exact .inl ⟨a,by omega,h2⟩
theorem lt_of_bits {p n:Nat} (hp:p<16777216) (h:∀ a,a<24→p.testBit a=true→a<n):p<2 ^ n:=by
 apply Nat.lt_pow_two_of_testBit;intro j hj;cases hb:p.testBit j with
 | false=>rfl
 | true =>
  by_cases h24:j<24
  · have:=h j h24 hb;omega
  rw [Nat.testBit_lt_two_pow (x:=p) (Nat.lt_of_lt_of_le (show p<2 ^ 24 by omega) (Nat.pow_le_pow_right (by omega) (by omega)))] at hb;cases hb
theorem lits_small (i p q n:Nat) (hp:p<16777216) (hq:q<16777216):(litsP i p q).all (fun x=>decide (x.atom<n))=smallB n (p:Int) (q:Int):=by
 have hc:∀ m:Nat,decide ((m:Int)<(2:Int) ^ n)=decide (m<2 ^ n):=fun m=>by
  have:((2 ^ n:Nat):Int)=(2:Int) ^ n:=by simp
  rw [← this]
  congr 1
  exact propext (by omega)
 unfold smallB;rw [hc,hc,Bool.eq_iff_iff,List.all_eq_true,Bool.and_eq_true,decide_eq_true_eq,decide_eq_true_eq];constructor
 · intro h;refine ⟨lt_of_bits hp fun a ha hb=>?_,lt_of_bits hq fun a ha hb=>?_⟩
   · have:=h ⟨i,a,false⟩ ((mem_litsTo i p q _ 24).2 ⟨a,ha,.inl ⟨hb,rfl⟩⟩);simpa using this
   have:=h ⟨i,a,true⟩ ((mem_litsTo i p q _ 24).2 ⟨a,ha,.inr ⟨hb,rfl⟩⟩);simpa using this
 rintro ⟨h1,h2⟩ x hx;obtain ⟨a,ha,h⟩:=(mem_litsTo i p q x 24).1 hx
 have o:∀ m:Nat,m<2 ^ n→m.testBit a=true→a<n:=fun m hm hb=>by
  apply Nat.lt_of_not_le;intro M;rw [Nat.testBit_lt_two_pow (x:=m) (Nat.lt_of_lt_of_le hm (Nat.pow_le_pow_right (by omega) M))] at hb;cases hb
 rcases h with ⟨hb,rfl⟩ | ⟨hb,rfl⟩
 · exact decide_eq_true (o p h1 hb)
 exact decide_eq_true (o q h2 hb)
theorem litsL_small (n:Nat):∀ (l:List (Int × Int)) (i:Nat),(∀ x∈l,partB x.1 x.2=true)→(litsL i (natP l)).all (fun x=>decide (x.atom<n))=l.all (fun p=>smallB n p.1 p.2)
 | [],i,_=>rfl
 | x :: l,i,h=>by
  obtain ⟨⟨h1,h2⟩,h3,h4⟩:=partB_iff.1 (h x (by simp));have e1:((x.1.toNat:Nat):Int)=x.1:=by omega
  have e2:((x.2.toNat:Nat):Int)=x.2:=by omega
  have o:=lits_small i x.1.toNat x.2.toNat n (by omega) (by omega);rw [e1,e2] at o
  show (litsP i x.1.toNat x.2.toNat++litsL (i+1) (natP l)).all _=_
  rw [List.all_append,o,litsL_small n l (i+1) (fun y hy=>h y (by simp [hy]))];rfl
theorem small_zero (n:Nat):smallB n 0 0=true:=by
 unfold smallB
 have:(0:Int)<2 ^ n:=by
  have h:((2 ^ n:Nat):Int)=(2:Int) ^ n:=by simp
  rw [← h];have:=Nat.two_pow_pos n;omega
 rw [decide_eq_true this];rfl
theorem six_small {xp xn yp yn:Int} {xs:List (Int × Int)} (n:Nat) (hl:xs.length=0∨xs.length=4):(six xp xn yp yn xs).all (fun p=>smallB n p.1 p.2)=(xs.all (fun p=>smallB n p.1 p.2) && (smallB n xp xn && smallB n yp yn)):=by
 rcases hl with h | h
 · obtain rfl:=List.eq_nil_of_length_eq_zero h;simp [six,small_zero]
 match xs,h with
 | [x0,x1,x2,x3],_ =>
  simp only [six,List.all_cons,List.all_nil,List.getD_cons_zero,List.getD_cons_succ,Bool.and_true];cases smallB n xp xn <;> cases smallB n yp yn <;> simp
theorem role_fits {k f r u xp xn yp yn a b:Int} {xs:List (Int × Int)} (nr:Nat) (h:clauseB k f r u xp xn yp yn xs a b=true):roleOkB nr k r u=(numB r nr (hasR k) && numB u nr (hasU k)):=by
 unfold clauseB at h;simp only [Bool.and_eq_true,decide_eq_true_eq] at h;obtain ⟨⟨U,T⟩,_,hr,hu,_⟩:=h;rcases (by omega:k=0∨k=1∨k=2∨k=3∨k=4∨k=5∨k=6) with rfl | rfl | rfl | rfl | rfl | rfl | rfl <;> simp [roleOkB,needR,numB,hasR,hasU] at hr hu ⊢ <;> (try omega) <;> (rw [Bool.eq_iff_iff];simp;omega)
theorem fit_yes {k f r u xp xn yp yn a b:Int} {xs:List (Int × Int)} (na nr:Nat) (h:clauseB k f r u xp xn yp yn xs a b=true) :
    fitK na nr ⟨k,f,r,u,xp,xn,yp,yn,xs,a,b⟩=((litsL 0 (natP (six xp xn yp yn xs))).all (fun x=>decide (x.atom<na)) && (numB r nr (hasR k) && numB u nr (hasU k))):=by
 unfold fitK okK nameB;dsimp only;rw [h,litsL_small na _ 0 (clauseB_parts h),six_small na (clauseB_inds h),role_fits nr h,Bool.true_and,Bool.and_assoc,Bool.and_assoc]
end

end Go.Proofs.YtellcgmabimieaaGreatDoor
