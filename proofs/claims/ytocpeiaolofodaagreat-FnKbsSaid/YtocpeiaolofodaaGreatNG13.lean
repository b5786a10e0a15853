/- Several texts in one: ConAddG, KrM. -/
import Derived.Test.YtocpeiaolofodaaGreatConSayG
import Derived.Test.YtocpeiaolofodaaGreatNG9
import Derived.Test.YtocpeiaolofodaaGreatNG4
import Derived.Test.YtocpeiaolofodaaGreatNG12
import Derived.Test.YtocpeiaolofodaaGreatNG11
namespace Go.Proofs.YtocpeiaolofodaaGreat

section
open Go.RowKit
set_option maxRecDepth 100000 in
set_option maxHeartbeats 4000000 in
theorem addG_of {d:Nat} (H:SayG 58 d):SayG 58 (d+1):=by
 intro v c bv xs w base lo hi h ao F aH hO bb;obtain ⟨na,nn,nc,ra,rn,rc,ka,kn,kc,rfl,hn,hr,hk⟩:=h;rw [wfC_eq,Bool.and_eq_true] at aH;obtain ⟨⟨bL,bK⟩,a2,Z,a0⟩:=shape_facts aH.1;have bR:Hid (wfL c.kids=true):=aH.2;have a3:=textC_eq c;have bz:Hid (c.kids.length=kn):=hk.len;have ce:=hk.fits;have cd:=hn.fits;have cc:=hr.fits;have ak:=hn.len;have aQ:=hr.len;obtain ⟨k,bn⟩:∃ k,k=c.kind:=⟨_,rfl⟩;rw [← bn] at bL bK a2 Z a0 a3 ⊢;rw [hk.len] at a3;obtain ⟨i0,aj,ai,ah,ag⟩:=info_parts Tryz.info5;have ap:Below w.heap.size w (w.alloc (.cells #[.int .i64 k,.slice na nn nc,.slice ra rn rc,.slice ka kn kc] 37)):=(Below.refl _ _).alloc (Nat.le_refl _) _;have bA:Hid (Keep6 base w bv (w.alloc (.cells #[.int .i64 k,.slice na nn nc,.slice ra rn rc,.slice ka kn kc] 37)) bv):=Keep6.of_below ap F;have bj:Hid (BoxC (w.alloc (.cells #[.int .i64 k,.slice na nn nc,.slice ra rn rc,.slice ka kn kc] 37)) w.heap.size (.int .i64 k) (.slice na nn nc) (.slice ra rn rc) (.slice ka kn kc)):=BoxC.new w _ _ _ _;have aL:Hid (OwnB base (w.alloc (.cells #[.int .i64 k,.slice na nn nc,.slice ra rn rc,.slice ka kn kc] 37)) bv xs):=hO.below ap (Nat.le_refl _);have HN:Hid (Rd lo hi w na nn nc c.name):=hn;have HR:Hid (Rd lo hi w ra rn rc c.role):=hr;have bV:Hid (RdL (RdC lo hi w d) lo hi w ka kn kc c.kids):=hk;have aq:base≤(w.alloc (.cells #[.int .i64 k,.slice na nn nc,.slice ra rn rc,.slice ka kn kc] 37)).heap.size:=by simp;omega
 have a9:Hid (base≤(w.alloc (.cells #[.int .i64 k,.slice na nn nc,.slice ra rn rc,.slice ka kn kc] 37)).heap.size):=aq;clear hk aH hO bn aq;by_cases k2:k=2
 · subst k2;rw [if_pos rfl] at a3;have af:Hid (textC c=c.name):=a3;obtain ⟨bH,_⟩:=a2 rfl;rw [ak] at bH;have bJ:c.name.length=nn:=ak;rw [a3,ak] at bb;have aX:=hn.below ap (Nat.le_trans ao F);rcases aX.cells with hz | ⟨b',off',bG,_,_,_⟩
   · omega
   subst bG;have G:Hid (∀ j u,(c.name.map (Value.int .u8))[j]?=some u→(w.alloc (.cells #[.int .i64 2,.slice (some ⟨b',off',none⟩) nn nc,.slice ra rn rc,.slice ka kn kc] 37)).cell? ((⟨b',off',none⟩:Addr).add j)=some u):=rd_news aX;have an:(c.name.map (Value.int .u8)).length=nn*1:=by simp [ak]
   obtain ⟨ys,ae⟩:∃ ys,ys=c.name:=⟨_,rfl⟩;rw [← ae] at G an ak af;subst ak;clear aX hn hr ap a2 Z a0 a3 ae bJ;go_enter Tryz.func58, Tryz.ntmps58;go_wp2_with (first | (at_builtin;refine wpList_append_own_at _ rfl (.tmp 10) (.tmp 12) 22 rfl base 5 i0 (.int .u8 0) 1 1 Tryz.underlying22 aj ai ah ag rfl (by decide) bv xs.length (xs.map (Value.int .u8)) rfl aL.out ⟨b',off',none⟩ ys.length nc (ys.map (Value.int .u8)) rfl an G.out (oneCB _) (by unfold maxLen;omega) (by omega) a9.out ?_;intro v' w2 z A D E;have HF:Hid (OwnB base w2 v' (xs++ys)∧Keep6 base _ bv w2 v'):=ownB_app6 aL.out a9.out z A E;clear z A D E));go_ret;exact ⟨_,rfl,by rw [af.out];exact HF.out.1,bA.out.trans HF.out.2⟩
 rw [if_neg k2] at a3;have cf:(k == 2)=false:=by simpa using k2
 have cb:=wordOf_len k;have ca:xs.length+4≤1073741900:=by omega
 have bs:Hid ((wordB k).size≤4):=by unfold Hid;rw [wordB_size];exact wordOf_len _
 clear a2 hn hr ap;go_enter Tryz.func58, Tryz.ntmps58;go_upto_if 22 with (first | (go_at_call 86;refine (conWord_any _ _).mono ?_;rintro e w' ⟨rfl,hw⟩;rw [hw];clear hw) | (at_builtin;refine list_append_strAt rfl (.tmp 14) (.tmp 17) 22 9 rfl base 5 i0 Tryz.underlying22 Tryz.underlying9 aj ai ah ag bv xs.length (xs.map (Value.int .u8)) rfl aL.out (wordB k) rfl (by have:=bs.out;unfold maxLen;omega) (by have:=bs.out;omega) a9.out ?_;intro v1 w1 z A E;have aN:Hid (OwnB base w1 v1 (xs++wordOf k)∧Keep6 base _ bv w1 v1):=ownB_str6 aL.out a9.out z A E;clear z A E;have ac:Hid (BoxC w1 w.heap.size (.int .i64 k) (.slice na nn nc) (.slice ra rn rc) (.slice ka kn kc)):=bj.out.keep6 aN.out.2;obtain ⟨b0,b1,b2,b3⟩:=ac.out.cells))
 have aa:Hid (Keep6 base w bv w1 v1):=bA.out.trans aN.out.2;have bm:base≤w1.heap.size:=Nat.le_trans F aa.out.k5.1.size;obtain ⟨x1,aG⟩:∃ x1,x1=xs++wordOf k:=⟨_,rfl⟩;have bq:Hid (x1=xs++wordOf k):=aG;have c6:x1.length≤xs.length+4:=by rw [aG,List.length_append];omega
 have b7:Hid (OwnB base w1 v1 x1):=by unfold Hid;rw [aG];exact aN.out.1
 clear aN aG;by_cases hkn:kn=0
 · subst hkn;rw [if_pos rfl] at a3;have af:Hid (xs++textC c=x1):=by unfold Hid;rw [a3,bq.out]
   go_wp2_with fail;go_ret;exact ⟨_,rfl,by rw [af.out];exact b7.out,aa.out⟩
 rw [if_neg hkn] at a3;have c7:((kn:Int) == 0)=false:=by simp;omega
 have af:Hid (xs++textC c=x1++[40]++roleT c.role++textJ 0 c.kids++[41]):=by unfold Hid;rw [a3,bq.out];simp
 have ch:x1.length+1+(roleT c.role).length+(textJ 0 c.kids).length+1≤1073741824:=by
  have:=congrArg List.length af.out;simp only [List.length_append,List.length_cons,List.length_nil] at this;omega
 have a1:Hid (Below w1.heap.size w1 (w1.alloc (.cells #[.int .u8 40] 5))):=(Below.refl _ _).alloc (Nat.le_refl _) _;have a7:Hid (OwnB base (w1.alloc (.cells #[.int .u8 40] 5)) v1 x1):=b7.out.below a1.out (Nat.le_refl _);have a6:Hid (base≤(w1.alloc (.cells #[.int .u8 40] 5)).heap.size):=Nat.le_trans bm a1.out.size;obtain ⟨rb',am⟩:∃ r,r=roleB k:=⟨_,rfl⟩;have b4:Hid (rb'=roleB k):=am;clear am;go_upto_if 29 with (first | (go_at_call 84;refine (hasRole_any _ _).mono ?_;rintro e w' ⟨rfl,hw⟩;rw [hw,← b4.out];clear hw) | (at_builtin;refine wpList_append_own_at _ rfl (.tmp 24) (.tmp 25) 22 rfl base 5 i0 (.int .u8 0) 1 1 Tryz.underlying22 aj ai ah ag rfl (by decide) v1 x1.length (x1.map (Value.int .u8)) rfl a7.out ⟨w1.heap.size,0,none⟩ 1 1 ([40].map (Value.int .u8)) rfl rfl (new1 _ _ _ rfl) (oneCB _) (by unfold maxLen;omega) (by omega) a6.out ?_;intro v' w2 z A D E;have HF:Hid (OwnB base w2 v' (x1++[40])∧Keep6 base _ v1 w2 v'):=ownB_app6 a7.out a6.out z A E;clear z A D E;have a5:Hid (Keep6 base w bv w2 v'):=(aa.out.trans (Keep6.of_below a1.out bm)).trans HF.out.2;have ab:Hid (BoxC w2 w.heap.size (.int .i64 k) (.slice na nn nc) (.slice ra rn rc) (.slice ka kn kc)):=(ac.out.below a1.out ac.out.lt).keep6 HF.out.2;clear b0 b1 b2 b3;obtain ⟨b0,b1,b2,b3⟩:=ab.out.cells))
 obtain ⟨x2,aF⟩:∃ x2,x2=x1++[40]:=⟨_,rfl⟩;have bP:Hid (x2=x1++[40]):=aF;have c5:x2.length=x1.length+1:=by rw [aF];simp
 have aK:Hid (OwnB base w2 v' x2):=by unfold Hid;rw [aF];exact HF.out.1
 have aP:base≤w2.heap.size:=Nat.le_trans F a5.out.k5.1.size;clear HF aF a7 a6 a1 b7 aa ac;go_cut [0] (fun v W=>OwnB base W v (x2++roleT c.role)∧Keep6 base w bv W v∧BoxC W w.heap.size (.int .i64 k) (.slice na nn nc) (.slice ra rn rc) (.slice ka kn kc))
 case first =>
  cases am:rb'
  · have aJ:Hid (roleT c.role=[]):=by unfold Hid roleT;rw [if_pos (a0 (by rw [← b4.out];exact am))]
    go_wp2_with fail;go_meet
    case rel=>rw [aJ.out,List.append_nil];exact ⟨aK.out,a5.out,ab.out⟩
  have aS:=Z (by rw [← b4.out];exact am);have aT:=HR.out.below a5.out.k5.1 ao;rcases aT.cells with hz | ⟨b',off',bF,_,_,_⟩
  · omega
  subst bF;have aJ:Hid (roleT c.role=c.role++[32]):=by unfold Hid roleT;rw [if_neg (fun e=>by rw [e] at aS;simp at aS)]
  have G:Hid (∀ j u,(c.role.map (Value.int .u8))[j]?=some u→w2.cell? ((⟨b',off',none⟩:Addr).add j)=some u):=rd_news aT;have an:(c.role.map (Value.int .u8)).length=rn*1:=by simp [aQ]
  obtain ⟨ys,ae⟩:∃ ys,ys=c.role:=⟨_,rfl⟩;have bM:Hid (ys=c.role):=ae;have bC:ys.length=rn:=by rw [ae];exact aQ
  have c9:x2.length+ys.length+2≤1073741824:=by
   have e1:=congrArg List.length aJ.out;simp only [List.length_append,List.length_cons,List.length_nil] at e1;rw [ae];omega
  rw [← ae] at G an;subst bC;clear aT ae aQ aS;go_wp2_with (first | (at_builtin;refine wpList_append_own_at _ rfl (.tmp 30) (.tmp 32) 22 rfl base 5 i0 (.int .u8 0) 1 1 Tryz.underlying22 aj ai ah ag rfl (by decide) v' x2.length (x2.map (Value.int .u8)) rfl aK.out ⟨b',off',none⟩ ys.length rc (ys.map (Value.int .u8)) rfl an G.out (oneCB _) (by unfold maxLen;omega) (by omega) aP ?_;intro v3 w3 z A D E;have aM:Hid (OwnB base w3 v3 (x2++ys)∧Keep6 base w2 v' w3 v3):=ownB_app6 aK.out aP z A E;clear z A D E;obtain ⟨x3,aE⟩:∃ x3,x3=x2++ys:=⟨_,rfl⟩;have bO:Hid (x3=x2++ys):=aE;have c4:x3.length=x2.length+ys.length:=(by rw [aE];simp);have aO:base≤w3.heap.size:=Nat.le_trans aP aM.out.2.k5.1.size;have ad:Hid (Below w3.heap.size w3 (w3.alloc (.cells #[.int .u8 32] 5))):=(Below.refl _ _).alloc (Nat.le_refl _) _;have bx:Hid (OwnB base (w3.alloc (.cells #[.int .u8 32] 5)) v3 x3):=(by unfold Hid;rw [aE];exact aM.out.1.below ad.out (Nat.le_refl _));have bu:Hid (base≤(w3.alloc (.cells #[.int .u8 32] 5)).heap.size):=Nat.le_trans aO ad.out.size;clear aE) | (at_builtin;refine wpList_append_own_at _ rfl (.tmp 34) (.tmp 35) 22 rfl base 5 i0 (.int .u8 0) 1 1 Tryz.underlying22 aj ai ah ag rfl (by decide) v3 x3.length (x3.map (Value.int .u8)) rfl bx.out ⟨w3.heap.size,0,none⟩ 1 1 ([32].map (Value.int .u8)) rfl rfl (new1 _ _ _ rfl) (oneCB _) (by unfold maxLen;omega) (by omega) bu.out ?_;intro v4 w4 z A D E;have b9:Hid (OwnB base w4 v4 (x3++[32])∧Keep6 base _ v3 w4 v4):=ownB_app6 bx.out bu.out z A E;clear z A D E));go_meet
  case rel =>
   rw [aJ.out];refine ⟨?_,a5.out.trans (aM.out.2.trans ((Keep6.of_below ad.out aO).trans b9.out.2)),(ab.out.keep6 aM.out.2).keep6 ((Keep6.of_below ad.out aO).trans b9.out.2)⟩;have:=b9.out.1;rw [bO.out,bM.out,List.append_assoc] at this;exact this
 case rest =>
  obtain ⟨aW,au,ax⟩:=hcut;clear b0 b1 b2 b3;obtain ⟨b0,b1,b2,b3⟩:=ax.cells;have bh:Hid (Keep6 base w bv wc u0):=au;obtain ⟨x5,aD⟩:∃ x5,x5=x2++roleT c.role:=⟨_,rfl⟩;rw [← aD] at aW;have bZ:x5.length=x2.length+(roleT c.role).length:=by rw [aD];simp
  have be:Hid (xs++textC c=x5++textJ 0 c.kids++[41]):=by unfold Hid;rw [af.out,aD,bP.out]
  have bU:Hid (OwnB base wc u0 x5):=aW;clear aW au ax aD aK a5 ab af;go_wp2_with fail;go_loopw [0,40] (fun v i W=>∃ j:Nat,j≤kn∧i=.int .i64 j∧OwnB base W v (x5++textJ 0 (c.kids.take j))∧Keep6 base w bv W v) (fun _ i _=>kn - (intOf i).toNat)
  case atStart=>exact ⟨0,Nat.zero_le _,rfl,by simpa [textJ] using bU.out,bh.out⟩
  case round =>
   obtain ⟨j,hj,rfl,aV,a4⟩:=hrel;obtain ⟨ul,bD⟩:∃ u,u=u0:=⟨_,rfl⟩;subst bD;have az:Hid (Keep6 base w bv wr ul):=a4;have al:base≤wr.heap.size:=Nat.le_trans F a4.k5.1.size;obtain ⟨x6,aC⟩:∃ x6,x6=x5++textJ 0 (c.kids.take j):=⟨_,rfl⟩;rw [← aC] at aV;have aY:Hid (x6=x5++textJ 0 (c.kids.take j)):=aC;have bY:x6.length≤x5.length+(textJ 0 c.kids).length:=by rw [aC,List.length_append];have:=textJ_take_le c.kids j;omega
   have b6:Hid (OwnB base wr ul x6):=aV;clear aV aC;by_cases hlt:j<kn
   · have bo:j<c.kids.length:=by rw [bz.out];exact hlt
     have cg:(j:Int)<(kn:Int):=by omega
     have hT:=textJ_take_succ c.kids j bo;have bd:=textJ_take_le c.kids (j+1);have HT:Hid (textJ 0 (c.kids.take (j+1))=textJ 0 (c.kids.take j)++gapT j++textC (c.kids.getD j CN.zero)):=hT
     have bX:x6.length+(gapT j).length+(textC (c.kids.getD j CN.zero)).length≤x5.length+(textJ 0 c.kids).length:=by
      have e1:=congrArg List.length hT;have e2:=congrArg List.length aY.out;simp only [List.length_append] at e1 e2;omega
     have hR:=bV.out.below a4.k5.1 ao;rcases hR.cells with hz | ⟨b,off,e1,_,_,hc⟩
     · omega
     subst e1;obtain ⟨v0,c8,v2,v3,q0,q1,q2,q3,aR⟩:=hc j hlt;obtain ⟨yk,U,O,T,N,I,J,Y,V,X,rfl,rfl,rfl,rfl⟩:=aR.form4;have bi:Hid (RdC lo hi wr d (.agg #[.int .i64 yk,.slice U O T,.slice N I J,.slice Y V X]) (c.kids.getD j CN.zero)):=aR;have bQ:Hid (wfC (c.kids.getD j CN.zero)=true):=wfL_getD _ _ bo bR.out;have aI:Below wr.heap.size wr (wr.alloc (.cells #[.int .i64 yk,.slice U O T,.slice N I J,.slice Y V X] 37)):=(Below.refl _ _).alloc (Nat.le_refl _) _;have ay:Hid (Keep6 base wr ul (wr.alloc (.cells #[.int .i64 yk,.slice U O T,.slice N I J,.slice Y V X] 37)) ul):=Keep6.of_below aI al;have b5:Hid (OwnB base (wr.alloc (.cells #[.int .i64 yk,.slice U O T,.slice N I J,.slice Y V X] 37)) ul x6):=b6.out.below aI (Nat.le_refl _);have ba:Hid (BoxC (wr.alloc (.cells #[.int .i64 yk,.slice U O T,.slice N I J,.slice Y V X] 37)) wr.heap.size (.int .i64 yk) (.slice U O T) (.slice N I J) (.slice Y V X)):=BoxC.new wr _ _ _ _;have bk:base≤(wr.alloc (.cells #[.int .i64 yk,.slice U O T,.slice N I J,.slice Y V X] 37)).heap.size:=Nat.le_trans al aI.size;have aZ:Hid (base≤(wr.alloc (.cells #[.int .i64 yk,.slice U O T,.slice N I J,.slice Y V X] 37)).heap.size):=bk;clear hT bd hR hc aR aI a4 bk;go_upto_if 46 with fail
     go_cut [0] (fun v W=>OwnB base W v (x6++gapT j)∧Keep6 base wr ul W v∧BoxC W wr.heap.size (.int .i64 yk) (.slice U O T) (.slice N I J) (.slice Y V X))
     case first =>
      by_cases hj0:0<j
      · have a1:Hid (Below (wr.alloc (.cells #[.int .i64 yk,.slice U O T,.slice N I J,.slice Y V X] 37)).heap.size (wr.alloc (.cells #[.int .i64 yk,.slice U O T,.slice N I J,.slice Y V X] 37)) ((wr.alloc (.cells #[.int .i64 yk,.slice U O T,.slice N I J,.slice Y V X] 37)).alloc (.cells #[.int .u8 32] 5))):=(Below.refl _ _).alloc (Nat.le_refl _) _;have a7:Hid (OwnB base ((wr.alloc (.cells #[.int .i64 yk,.slice U O T,.slice N I J,.slice Y V X] 37)).alloc (.cells #[.int .u8 32] 5)) ul x6):=b5.out.below a1.out (Nat.le_refl _);have a6:Hid (base≤((wr.alloc (.cells #[.int .i64 yk,.slice U O T,.slice N I J,.slice Y V X] 37)).alloc (.cells #[.int .u8 32] 5)).heap.size):=Nat.le_trans aZ.out a1.out.size;go_wp2_with (at_builtin;refine wpList_append_own_at _ rfl (.tmp 47) (.tmp 48) 22 rfl base 5 i0 (.int .u8 0) 1 1 Tryz.underlying22 aj ai ah ag rfl (by decide) ul x6.length (x6.map (Value.int .u8)) rfl a7.out ⟨wr.heap.size+1,0,none⟩ 1 1 ([32].map (Value.int .u8)) rfl rfl (new1 _ _ _ (by simp)) (oneCB _) (by unfold maxLen;omega) (by omega) a6.out ?_;intro v7 w7 z A D E;have b8:Hid (OwnB base w7 v7 (x6++[32])∧Keep6 base _ ul w7 v7):=ownB_app6 a7.out a6.out z A E;clear z A D E);go_meet
        case rel=>rw [gapT_pos hj0];exact ⟨b8.out.1,ay.out.trans ((Keep6.of_below a1.out aZ.out).trans b8.out.2),ba.out.keep6 ((Keep6.of_below a1.out aZ.out).trans b8.out.2)⟩
      have bc:j=0:=by omega
      subst bc;go_wp2_with fail;go_meet
      case rel=>rw [gapT_zero,List.append_nil];exact ⟨b5.out,ay.out,ba.out⟩
     case rest =>
      obtain ⟨aU,a8,av⟩:=hcut;obtain ⟨c0,c1,c2,c3⟩:=av.cells;have bg:Hid (Keep6 base wr ul wc u0):=a8;have bE:base≤wc.heap.size:=Nat.le_trans al a8.k5.1.size;obtain ⟨x7,aB⟩:∃ x7,x7=x6++gapT j:=⟨_,rfl⟩;rw [← aB] at aU;have bW:x7.length=x6.length+(gapT j).length:=by rw [aB];simp
      have bN:Hid (x7++textC (c.kids.getD j CN.zero)=x5++textJ 0 (c.kids.take (j+1))):=by unfold Hid;rw [HT.out,aB,aY.out];simp
      have bT:Hid (OwnB base wc u0 x7):=aU;have aA:Hid (RdC lo hi wc d (.agg #[.int .i64 yk,.slice U O T,.slice N I J,.slice Y V X]) (c.kids.getD j CN.zero)):=bi.out.below a8.k5.1 ao;clear aU a8 av aB b6 b5 ba;go_wp2_with fail;refine (H (.agg #[.int .i64 yk,.slice U O T,.slice N I J,.slice Y V X]) (c.kids.getD j CN.zero) u0 x7 wc base lo hi aA.out ao bE bQ.out bT.out (by omega)).mono ?_;rintro e w8 ⟨v8,rfl,bp,ar⟩;have bS:Hid (OwnB base w8 v8 (x5++textJ 0 (c.kids.take (j+1)))):=by unfold Hid;rw [← bN.out];exact bp
      have bf:Hid (Keep6 base w bv w8 v8):=az.out.trans (bg.out.trans ar);clear bp ar;go_wp2_with fail;go_roundw
      case rel=>exact ⟨j+1,by omega,by go_num,bS.out,bf.out⟩
      case measure=>simp [intOf];omega
   have HE:Hid (xs++textC c=x6++[41]):=by unfold Hid;rw [be.out,aY.out,List.take_of_length_le (by rw [bz.out];omega)]
   have a1:Hid (Below wr.heap.size wr (wr.alloc (.cells #[.int .u8 41] 5))):=(Below.refl _ _).alloc (Nat.le_refl _) _;have a7:Hid (OwnB base (wr.alloc (.cells #[.int .u8 41] 5)) ul x6):=b6.out.below a1.out (Nat.le_refl _);have a6:Hid (base≤(wr.alloc (.cells #[.int .u8 41] 5)).heap.size):=Nat.le_trans al a1.out.size;clear a4;go_wp2_with (at_builtin;refine wpList_append_own_at _ rfl (.tmp 54) (.tmp 55) 22 rfl base 5 i0 (.int .u8 0) 1 1 Tryz.underlying22 aj ai ah ag rfl (by decide) ul x6.length (x6.map (Value.int .u8)) rfl a7.out ⟨wr.heap.size,0,none⟩ 1 1 ([41].map (Value.int .u8)) rfl rfl (new1 _ _ _ rfl) (oneCB _) (by unfold maxLen;omega) (by omega) a6.out ?_;intro v9 w9 z A D E;have bB:Hid (OwnB base w9 v9 (x6++[41])∧Keep6 base _ ul w9 v9):=ownB_app6 a7.out a6.out z A E;clear z A D E);go_ret;exact ⟨_,rfl,by rw [HE.out];exact bB.out.1,az.out.trans ((Keep6.of_below a1.out al).trans bB.out.2)⟩
theorem addG_any:∀ d,SayG 58 d
 | 0=>fun _ _ _ _ _ _ _ _ h=>h.elim
 | d+1=>addG_of (addG_any d)
end

section
inductive ResX where
 | ok (x:AX) (j:Nat)
 | bad (at':Int)
inductive ResK where
 | ok (xs:List AX)
 | bad (at':Int)
def kindX (l:List UInt8):Int :=
 if l=[83,117,98] then 0 else if l=[69,113] then 1 else if l=[68,105,115] then 2 else if l=[82,111,108,101] then 3 else if l=[73,115] then 4 else if l=[82,101,108] then 5 else -1
theorem kindX_range (l:List UInt8):kindX l=-1∨kindX l=0∨kindX l=1∨kindX l=2∨kindX l=3∨kindX l=4∨kindX l=5:=by
 unfold kindX
 repeat' split
 all_goals simp
def kindXI (ts:List Tok) (i:Nat):Int:=kindX (strOfNums (wordI ts i)).toList
theorem kindXI_range (ts:List Tok) (i:Nat):kindXI ts i=-1∨kindXI ts i=0∨kindXI ts i=1∨kindXI ts i=2∨kindXI ts i=3∨kindXI ts i=4∨kindXI ts i=5:=kindX_range _
def putB (x:AX) (f:Nat) (t:List Int):AX :=
 if f=82 then { x with r:=t } else if f=83 then { x with s:=t } else if f=65 then { x with a:=t } else if f=66 then { x with b:=t } else x
def fieldR (ts:List Tok) (en:Int) (f:Nat) (x:AX) (i:Nat):ResX :=
 if f=67 then (match conR ts en 6 i with | .bad p=>.bad p | .ok c j=>.ok { x with c:=c } j)
 else if f=68 then (match conR ts en 6 i with | .bad p=>.bad p | .ok c j=>.ok { x with d:=c } j)
 else if isI ts 2 i=true then .ok (putB x f (wordI ts i)) (i+1) else .bad (hereI ts en i)
def fieldsR (ts:List Tok) (en:Int):List Nat→AX→Nat→ResX
 | [],x,i=>.ok x i
 | f :: fs,x,i=>match fieldR ts en f x i with | .bad p=>.bad p | .ok x' j=>fieldsR ts en fs x' j
def closeX (ts:List Tok) (en:Int):ResX→ResX
 | .bad p=>.bad p
 | .ok x j=>if isI ts 4 j=true then .ok x (j+1) else .bad (hereI ts en j)
def AX.kd (k:Int):AX:={ AX.zero with kind:=k }
def axR (ts:List Tok) (en:Int) (i:Nat):ResX :=
 if isI ts 1 i=false then .bad (hereI ts en i)
 else if kindXI ts i=-1 then .bad (hereI ts en i)
 else if isI ts 3 (i+1)=false then .bad (hereI ts en (i+1))
 else closeX ts en (fieldsR ts en (fieldsN (kindXI ts i)) (AX.kd (kindXI ts i)) (i+2))
def axsR (ts:List Tok) (en:Int):Nat→Nat→List AX→ResK
 | 0,_,z=>.ok z
 | f+1,i,z=>if i<ts.length then (match axR ts en i with | .bad p=>.bad p | .ok x j=>axsR ts en f j (z++[x])) else .ok z
def wholeK (zs:List Int):List AX × Int :=
 if (toks zs).2≠-1 then ([],(toks zs).2)
 else match axsR (toks zs).1 (zs.length:Nat) ((toks zs).1.length+1) 0 [] with
  | .bad p=>([],p)
  | .ok xs=>(xs,-1)
def kbRead (zs:List Int):List AX × Int:=if (wholeK zs).2=-1∧kbB (wholeK zs).1=false then ([],(zs.length:Nat)) else wholeK zs
theorem wholeK_tok {zs:List Int} {ts:List Tok} {p:Int} (ht:toks zs=(ts,p)) (hp:p≠-1):wholeK zs=([],p):=by
 unfold wholeK;rw [ht];rw [if_pos hp]
theorem wholeK_bad {zs:List Int} {ts:List Tok} {n:Nat} {a:Int} (ht:toks zs=(ts,-1)) (hl:zs.length=n) (h:axsR ts (n:Nat) (ts.length+1) 0 []=.bad a):wholeK zs=([],a):=by
 unfold wholeK;rw [ht,hl];rw [if_neg (by simp)];simp only;rw [h]
theorem wholeK_ok {zs:List Int} {ts:List Tok} {n:Nat} {xs:List AX} (ht:toks zs=(ts,-1)) (hl:zs.length=n) (h:axsR ts (n:Nat) (ts.length+1) 0 []=.ok xs):wholeK zs=(xs,-1):=by
 unfold wholeK;rw [ht,hl];rw [if_neg (by simp)];simp only;rw [h]
theorem kbRead_no {zs:List Int} {n:Nat} {xs:List AX} (hl:zs.length=n) (h:wholeK zs=(xs,-1)) (hk:kbB xs=false):kbRead zs=([],((n:Nat):Int)):=by
 unfold kbRead;rw [h,hl];rw [if_pos ⟨rfl,hk⟩]
theorem kbRead_ok {zs:List Int} {xs:List AX} (h:wholeK zs=(xs,-1)) (hk:kbB xs=true):kbRead zs=(xs,-1):=by
 unfold kbRead;rw [h];rw [if_neg (fun e=>by rw [hk] at e;simp at e)]
theorem fieldR_kind {ts:List Tok} {en:Int} {f:Nat} {x x':AX} {i j:Nat} (h:fieldR ts en f x i=.ok x' j):x'.kind=x.kind:=by
 unfold fieldR at h
 split at h
 · cases hc:conR ts en 6 i with
   | bad p=>rw [hc] at h;simp at h
   | ok c k=>rw [hc] at h;simp only [ResX.ok.injEq] at h;rw [← h.1]
 split at h
 · cases hc:conR ts en 6 i with
   | bad p=>rw [hc] at h;simp at h
   | ok c k=>rw [hc] at h;simp only [ResX.ok.injEq] at h;rw [← h.1]
 split at h
 · simp only [ResX.ok.injEq] at h;rw [← h.1];unfold putB
   repeat' split
   all_goals rfl
 simp at h
theorem fieldsR_kind {ts:List Tok} {en:Int}:∀ {fs:List Nat} {x x':AX} {i j:Nat},fieldsR ts en fs x i=.ok x' j→x'.kind=x.kind:=by
 intro fs
 induction fs with
 | nil=>intro x x' i j h;simp only [fieldsR,ResX.ok.injEq] at h;rw [← h.1]
 | cons f fs ih =>
  intro x x' i j h;simp only [fieldsR] at h;cases h1:fieldR ts en f x i with
  | bad p=>rw [h1] at h;simp at h
  | ok x1 j1=>rw [h1] at h;exact (ih h).trans (fieldR_kind h1)
theorem fieldR_end {ts:List Tok} {en:Int} {f:Nat} {x x':AX} {i j:Nat} (h:fieldR ts en f x i=.ok x' j):i<j∧j≤ts.length:=by
 unfold fieldR at h
 split at h
 · cases hc:conR ts en 6 i with
   | bad p=>rw [hc] at h;simp at h
   | ok c k=>rw [hc] at h;simp only [ResX.ok.injEq] at h;have:=conR_end ts en 6 i c k hc;omega
 split at h
 · cases hc:conR ts en 6 i with
   | bad p=>rw [hc] at h;simp at h
   | ok c k=>rw [hc] at h;simp only [ResX.ok.injEq] at h;have:=conR_end ts en 6 i c k hc;omega
 split at h
 · rename_i h1
   have:=isI_lt h1;simp only [ResX.ok.injEq] at h;omega
 simp at h
theorem fieldsR_end {ts:List Tok} {en:Int}:∀ {fs:List Nat} {x x':AX} {i j:Nat},fieldsR ts en fs x i=.ok x' j→i≤ts.length→i≤j∧j≤ts.length:=by
 intro fs
 induction fs with
 | nil=>intro x x' i j h hi;simp only [fieldsR,ResX.ok.injEq] at h;omega
 | cons f fs ih =>
  intro x x' i j h hi;simp only [fieldsR] at h;cases h1:fieldR ts en f x i with
  | bad p=>rw [h1] at h;simp at h
  | ok x1 j1 =>
   rw [h1] at h;simp only at h;have:=fieldR_end h1;have:=ih h this.2;omega
theorem axR_end {ts:List Tok} {en:Int} {i:Nat} {x:AX} {j:Nat} (h:axR ts en i=.ok x j):i<j∧j≤ts.length:=by
 unfold axR at h
 split at h
 · simp at h
 split at h
 · simp at h
 split at h
 · simp at h
 rename_i h3
 have A:isI ts 3 (i+1)=true:=by simpa using h3
 have l3:=isI_lt A;cases h5:fieldsR ts en (fieldsN (kindXI ts i)) (AX.kd (kindXI ts i)) (i+2) with
 | bad p=>rw [h5] at h;simp [closeX] at h
 | ok x1 j1 =>
  rw [h5] at h;simp only [closeX] at h
  split at h
  · rename_i h6
    have:=isI_lt h6;have:=fieldsR_end h5 (by omega);simp only [ResX.ok.injEq] at h;omega
  simp at h
theorem axsR_step {ts:List Tok} {en:Int} {f i j:Nat} {z:List AX} {x:AX} (hi:i<ts.length) (h:axR ts en i=.ok x j):axsR ts en (f+1) i z=axsR ts en f j (z++[x]):=by
 rw [axsR,if_pos hi,h]
theorem axsR_bad {ts:List Tok} {en:Int} {f i:Nat} {z:List AX} {p:Int} (hi:i<ts.length) (h:axR ts en i=.bad p):axsR ts en (f+1) i z=.bad p:=by
 rw [axsR,if_pos hi,h]
theorem axsR_end {ts:List Tok} {en:Int} {f i:Nat} {z:List AX} (hi:ts.length≤i):axsR ts en f i z=.ok z:=by
 cases f with
 | zero=>rfl
 | succ f=>rw [axsR,if_neg (by omega)]
def AX.bulkR (x:AX):Nat:=x.c.bulk+x.d.bulk+x.r.length+x.s.length+x.a.length+x.b.length
theorem fieldR_bulk {ts:List Tok} {en:Int} (hw:∀ i,(wordI ts i).length≤6) {f:Nat} {x x':AX} {i j:Nat} (h:fieldR ts en f x i=.ok x' j):x'.bulkR+7*i≤x.bulkR+7*j∧x'.kind=x.kind:=by
 unfold fieldR at h
 split at h
 · cases hc:conR ts en 6 i with
   | bad p=>rw [hc] at h;simp at h
   | ok c k =>
    rw [hc] at h;simp only [ResX.ok.injEq] at h;have:=conR_bulk ts en hw 6 i c k hc;obtain ⟨h1,h2⟩:=h;subst h1 h2;refine ⟨?_,rfl⟩;simp only [AX.bulkR];omega
 split at h
 · cases hc:conR ts en 6 i with
   | bad p=>rw [hc] at h;simp at h
   | ok c k =>
    rw [hc] at h;simp only [ResX.ok.injEq] at h;have:=conR_bulk ts en hw 6 i c k hc;obtain ⟨h1,h2⟩:=h;subst h1 h2;refine ⟨?_,rfl⟩;simp only [AX.bulkR];omega
 split at h
 · simp only [ResX.ok.injEq] at h;have:=hw i;obtain ⟨h1,h2⟩:=h;subst h1 h2;unfold putB
   repeat' split
   all_goals
    refine ⟨?_,rfl⟩;simp only [AX.bulkR];omega
 simp at h
theorem fieldsR_bulk {ts:List Tok} {en:Int} (hw:∀ i,(wordI ts i).length≤6):∀ {fs:List Nat} {x x':AX} {i j:Nat},fieldsR ts en fs x i=.ok x' j→x'.bulkR+7*i≤x.bulkR+7*j∧x'.kind=x.kind:=by
 intro fs
 induction fs with
 | nil=>intro x x' i j h;simp only [fieldsR,ResX.ok.injEq] at h;rw [← h.1,← h.2];exact ⟨Nat.le_refl _,rfl⟩
 | cons f fs ih =>
  intro x x' i j h;simp only [fieldsR] at h;cases h1:fieldR ts en f x i with
  | bad p=>rw [h1] at h;simp at h
  | ok x1 j1 =>
   rw [h1] at h;simp only at h;have q1:=fieldR_bulk hw h1;have q2:=ih h;exact ⟨by omega,q2.2.trans q1.2⟩
theorem kd_bulk (k:Int):(AX.kd k).bulkR=0:=by
 simp [AX.kd,AX.bulkR,AX.zero,CN.zero,CN.bulk_eq,CN.name,CN.role,CN.kids,bulks]
theorem axR_bulk {ts:List Tok} {en:Int} (hw:∀ i,(wordI ts i).length≤6) {i:Nat} {x:AX} {j:Nat} (h:axR ts en i=.ok x j):x.bulkR+7*i≤7*j∧(0≤x.kind∧x.kind≤5):=by
 unfold axR at h
 split at h
 · simp at h
 split at h
 · simp at h
 rename_i hk
 split at h
 · simp at h
 cases h5:fieldsR ts en (fieldsN (kindXI ts i)) (AX.kd (kindXI ts i)) (i+2) with
 | bad p=>rw [h5] at h;simp [closeX] at h
 | ok x1 j1 =>
  rw [h5] at h;simp only [closeX] at h
  split at h
  · have q:=fieldsR_bulk hw h5;rw [kd_bulk] at q;simp only [ResX.ok.injEq] at h;obtain ⟨h1,h2⟩:=h;subst h1 h2;refine ⟨by omega,?_⟩;rw [q.2];have:=kindXI_range ts i
    show 0≤kindXI ts i∧kindXI ts i≤5
    omega
  simp at h
end

end Go.Proofs.YtocpeiaolofodaaGreat
