/- Several texts in one: ConAdd, ImplTok2. -/
import Derived.Test.YtocpeiaolofodaaGreatNG7
import Derived.Test.YtocpeiaolofodaaGreatNG4
import Derived.Test.YtocpeiaolofodaaGreatNG8
import Derived.Test.YtocpeiaolofodaaGreatNG5
import Derived.RangeFuncNested
import Derived.RangeFuncBound
import Derived.RangeFuncCalls
import Derived.RangeFuncLeaves
import Derived.RangeFuncBox
import Derived.Shelf.Abstract
import Derived.Shelf.RegionOpen
import Derived.OwnWalkIn
import Derived.TacticsInMore
import Derived.LoopNIn
import Derived.LoopIn
namespace Go.Proofs.YtocpeiaolofodaaGreat

section
open Go.RowKit
set_option maxHeartbeats 400000 in
theorem conWord_any (k:Int) (w:World):Calls Tryz.prog 86 #[.int .i64 k] w fun e w'=>e=.returned (.string (wordB k))∧w'=w:=by
 go_enter Tryz.func86, Tryz.ntmps86;go_wp2
 all_goals
  go_ret;refine ⟨?_,rfl⟩;simp_all [wordB]
set_option maxRecDepth 100000 in
set_option maxHeartbeats 4000000 in
theorem addC_of {d:Nat} (H:SayC 58 d):SayC 58 (d+1):=by
 intro v c bv xs w base lo hi h an E aG hO ba;obtain ⟨na,nn,nc,ra,rn,rc,ka,kn,kc,rfl,hn,hr,hk⟩:=h;rw [wfC_eq,Bool.and_eq_true] at aG;obtain ⟨⟨bJ,bH⟩,a1,Y,Z⟩:=shape_facts aG.1;have bP:Hid (wfL c.kids=true):=aG.2;have a2:=textC_eq c;have bx:Hid (c.kids.length=kn):=hk.len;have cc:=hk.fits;have cb:=hn.fits;have ca:=hr.fits;have aj:=hn.len;have aP:=hr.len;obtain ⟨k,bm⟩:∃ k,k=c.kind:=⟨_,rfl⟩;rw [← bm] at bJ bH a1 Y Z a2 ⊢;rw [hk.len] at a2;obtain ⟨i0,ai,ah,ag,af⟩:=info_parts Tryz.info5;have ao:Below w.heap.size w (w.alloc (.cells #[.int .i64 k,.slice na nn nc,.slice ra rn rc,.slice ka kn kc] 37)):=(Below.refl _ _).alloc (Nat.le_refl _) _;have bz:Hid (Keep5 base w (w.alloc (.cells #[.int .i64 k,.slice na nn nc,.slice ra rn rc,.slice ka kn kc] 37))):=Keep5.of_below ao E;have bi:Hid (BoxC (w.alloc (.cells #[.int .i64 k,.slice na nn nc,.slice ra rn rc,.slice ka kn kc] 37)) w.heap.size (.int .i64 k) (.slice na nn nc) (.slice ra rn rc) (.slice ka kn kc)):=BoxC.new w _ _ _ _;have aK:Hid (OwnB base (w.alloc (.cells #[.int .i64 k,.slice na nn nc,.slice ra rn rc,.slice ka kn kc] 37)) bv xs):=hO.below ao (Nat.le_refl _);have HN:Hid (Rd lo hi w na nn nc c.name):=hn;have HR:Hid (Rd lo hi w ra rn rc c.role):=hr;have bT:Hid (RdL (RdC lo hi w d) lo hi w ka kn kc c.kids):=hk;have ap:base≤(w.alloc (.cells #[.int .i64 k,.slice na nn nc,.slice ra rn rc,.slice ka kn kc] 37)).heap.size:=by simp;omega
 have a8:Hid (base≤(w.alloc (.cells #[.int .i64 k,.slice na nn nc,.slice ra rn rc,.slice ka kn kc] 37)).heap.size):=ap;clear hk aG hO bm ap;by_cases k2:k=2
 · subst k2;rw [if_pos rfl] at a2;have ae:Hid (textC c=c.name):=a2;obtain ⟨bF,_⟩:=a1 rfl;rw [aj] at bF;have bG:c.name.length=nn:=aj;rw [a2,aj] at ba;have aW:=hn.below ao (Nat.le_trans an E);rcases aW.cells with hz | ⟨b',off',bE,_,_,_⟩
   · omega
   subst bE;have F:Hid (∀ j u,(c.name.map (Value.int .u8))[j]?=some u→(w.alloc (.cells #[.int .i64 2,.slice (some ⟨b',off',none⟩) nn nc,.slice ra rn rc,.slice ka kn kc] 37)).cell? ((⟨b',off',none⟩:Addr).add j)=some u):=rd_news aW;have am:(c.name.map (Value.int .u8)).length=nn*1:=by simp [aj]
   obtain ⟨ys,ad⟩:∃ ys,ys=c.name:=⟨_,rfl⟩;rw [← ad] at F am aj ae;subst aj;clear aW hn hr ao a1 Y Z a2 ad bG;go_enter Tryz.func58, Tryz.ntmps58;go_wp2_with (first | (at_builtin;refine wpList_append_own _ rfl (.tmp 10) (.tmp 12) 22 rfl base 5 i0 (.int .u8 0) 1 1 Tryz.underlying22 ai ah ag af rfl (by decide) bv xs.length (xs.map (Value.int .u8)) rfl aK.out ⟨b',off',none⟩ ys.length nc (ys.map (Value.int .u8)) rfl am F.out (oneCB _) (by unfold maxLen;omega) (by omega) a8.out ?_;intro v' w2 z A D;have HF:Hid (OwnB base w2 v' (xs++ys)∧Keep5 base _ w2):=ownB_app aK.out a8.out z A;clear z A D));go_ret;exact ⟨_,rfl,by rw [ae.out];exact HF.out.1,bz.out.trans HF.out.2⟩
 rw [if_neg k2] at a2;have cd:(k == 2)=false:=by simpa using k2
 have c9:=wordOf_len k;have c8:xs.length+4≤1073741900:=by omega
 have bq:Hid ((wordB k).size≤4):=by unfold Hid;rw [wordB_size];exact wordOf_len _
 clear a1 hn hr ao;go_enter Tryz.func58, Tryz.ntmps58;go_upto_if 22 with (first | (go_at_call 86;refine (conWord_any _ _).mono ?_;rintro e w' ⟨rfl,hw⟩;rw [hw];clear hw) | (at_builtin;refine Lib.wpList_append_own_string _ rfl (.tmp 14) (.tmp 17) 22 9 rfl base 5 i0 Tryz.underlying22 Tryz.underlying9 ai ah ag af bv xs.length (xs.map (Value.int .u8)) rfl aK.out (wordB k) rfl (by have:=bq.out;unfold maxLen;omega) (by have:=bq.out;omega) a8.out ?_;intro v1 w1 z A D;have aM:Hid (OwnB base w1 v1 (xs++wordOf k)∧Keep5 base _ w1):=ownB_str aK.out a8.out z A;clear z A D;have ab:Hid (BoxC w1 w.heap.size (.int .i64 k) (.slice na nn nc) (.slice ra rn rc) (.slice ka kn kc)):=bi.out.keep5 aM.out.2;obtain ⟨b0,b1,b2,b3⟩:=ab.out.cells))
 have a9:Hid (Keep5 base w w1):=bz.out.trans aM.out.2;have bk:base≤w1.heap.size:=Nat.le_trans E a9.out.1.size;obtain ⟨x1,aF⟩:∃ x1,x1=xs++wordOf k:=⟨_,rfl⟩;have bp:Hid (x1=xs++wordOf k):=aF;have c4:x1.length≤xs.length+4:=by rw [aF,List.length_append];omega
 have b6:Hid (OwnB base w1 v1 x1):=by unfold Hid;rw [aF];exact aM.out.1
 clear aM aF;by_cases hkn:kn=0
 · subst hkn;rw [if_pos rfl] at a2;have ae:Hid (xs++textC c=x1):=by unfold Hid;rw [a2,bp.out]
   go_wp2_with fail;go_ret;exact ⟨_,rfl,by rw [ae.out];exact b6.out,a9.out⟩
 rw [if_neg hkn] at a2;have c5:((kn:Int) == 0)=false:=by simp;omega
 have ae:Hid (xs++textC c=x1++[40]++roleT c.role++textJ 0 c.kids++[41]):=by unfold Hid;rw [a2,bp.out];simp
 have cf:x1.length+1+(roleT c.role).length+(textJ 0 c.kids).length+1≤1073741824:=by
  have:=congrArg List.length ae.out;simp only [List.length_append,List.length_cons,List.length_nil] at this;omega
 have a0:Hid (Below w1.heap.size w1 (w1.alloc (.cells #[.int .u8 40] 5))):=(Below.refl _ _).alloc (Nat.le_refl _) _;have a6:Hid (OwnB base (w1.alloc (.cells #[.int .u8 40] 5)) v1 x1):=b6.out.below a0.out (Nat.le_refl _);have a5:Hid (base≤(w1.alloc (.cells #[.int .u8 40] 5)).heap.size):=Nat.le_trans bk a0.out.size;obtain ⟨rb',al⟩:∃ r,r=roleB k:=⟨_,rfl⟩;have aZ:Hid (rb'=roleB k):=al;clear al;go_upto_if 29 with (first | (go_at_call 84;refine (hasRole_any _ _).mono ?_;rintro e w' ⟨rfl,hw⟩;rw [hw,← aZ.out];clear hw) | (at_builtin;refine wpList_append_own _ rfl (.tmp 24) (.tmp 25) 22 rfl base 5 i0 (.int .u8 0) 1 1 Tryz.underlying22 ai ah ag af rfl (by decide) v1 x1.length (x1.map (Value.int .u8)) rfl a6.out ⟨w1.heap.size,0,none⟩ 1 1 ([40].map (Value.int .u8)) rfl rfl (new1 _ _ _ rfl) (oneCB _) (by unfold maxLen;omega) (by omega) a5.out ?_;intro v' w2 z A D;have HF:Hid (OwnB base w2 v' (x1++[40])∧Keep5 base _ w2):=ownB_app a6.out a5.out z A;clear z A D;have a4:Hid (Keep5 base w w2):=(a9.out.trans (Keep5.of_below a0.out bk)).trans HF.out.2;have aa:Hid (BoxC w2 w.heap.size (.int .i64 k) (.slice na nn nc) (.slice ra rn rc) (.slice ka kn kc)):=(ab.out.below a0.out ab.out.lt).keep5 HF.out.2;clear b0 b1 b2 b3;obtain ⟨b0,b1,b2,b3⟩:=aa.out.cells))
 obtain ⟨x2,aE⟩:∃ x2,x2=x1++[40]:=⟨_,rfl⟩;have bN:Hid (x2=x1++[40]):=aE;have bZ:x2.length=x1.length+1:=by rw [aE];simp
 have aJ:Hid (OwnB base w2 v' x2):=by unfold Hid;rw [aE];exact HF.out.1
 have aO:base≤w2.heap.size:=Nat.le_trans E a4.out.1.size;clear HF aE a6 a5 a0 b6 a9 ab;go_cut [0] (fun v W=>OwnB base W v (x2++roleT c.role)∧Keep5 base w W∧BoxC W w.heap.size (.int .i64 k) (.slice na nn nc) (.slice ra rn rc) (.slice ka kn kc))
 case first =>
  cases al:rb'
  · have aI:Hid (roleT c.role=[]):=by unfold Hid roleT;rw [if_pos (Z (by rw [← aZ.out];exact al))]
    go_wp2_with fail;go_meet
    case rel=>rw [aI.out,List.append_nil];exact ⟨aJ.out,a4.out,aa.out⟩
  have aR:=Y (by rw [← aZ.out];exact al);have aS:=HR.out.below a4.out.1 an;rcases aS.cells with hz | ⟨b',off',bD,_,_,_⟩
  · omega
  subst bD;have aI:Hid (roleT c.role=c.role++[32]):=by unfold Hid roleT;rw [if_neg (fun e=>by rw [e] at aR;simp at aR)]
  have F:Hid (∀ j u,(c.role.map (Value.int .u8))[j]?=some u→w2.cell? ((⟨b',off',none⟩:Addr).add j)=some u):=rd_news aS;have am:(c.role.map (Value.int .u8)).length=rn*1:=by simp [aP]
  obtain ⟨ys,ad⟩:∃ ys,ys=c.role:=⟨_,rfl⟩;have bK:Hid (ys=c.role):=ad;have bB:ys.length=rn:=by rw [ad];exact aP
  have c7:x2.length+ys.length+2≤1073741824:=by
   have e1:=congrArg List.length aI.out;simp only [List.length_append,List.length_cons,List.length_nil] at e1;rw [ad];omega
  rw [← ad] at F am;subst bB;clear aS ad aP aR;go_wp2_with (first | (at_builtin;refine wpList_append_own _ rfl (.tmp 30) (.tmp 32) 22 rfl base 5 i0 (.int .u8 0) 1 1 Tryz.underlying22 ai ah ag af rfl (by decide) v' x2.length (x2.map (Value.int .u8)) rfl aJ.out ⟨b',off',none⟩ ys.length rc (ys.map (Value.int .u8)) rfl am F.out (oneCB _) (by unfold maxLen;omega) (by omega) aO ?_;intro v3 w3 z A D;have aL:Hid (OwnB base w3 v3 (x2++ys)∧Keep5 base w2 w3):=ownB_app aJ.out aO z A;clear z A D;obtain ⟨x3,aD⟩:∃ x3,x3=x2++ys:=⟨_,rfl⟩;have bM:Hid (x3=x2++ys):=aD;have bY:x3.length=x2.length+ys.length:=(by rw [aD];simp);have aN:base≤w3.heap.size:=Nat.le_trans aO aL.out.2.1.size;have ac:Hid (Below w3.heap.size w3 (w3.alloc (.cells #[.int .u8 32] 5))):=(Below.refl _ _).alloc (Nat.le_refl _) _;have bu:Hid (OwnB base (w3.alloc (.cells #[.int .u8 32] 5)) v3 x3):=(by unfold Hid;rw [aD];exact aL.out.1.below ac.out (Nat.le_refl _));have bs:Hid (base≤(w3.alloc (.cells #[.int .u8 32] 5)).heap.size):=Nat.le_trans aN ac.out.size;clear aD) | (at_builtin;refine wpList_append_own _ rfl (.tmp 34) (.tmp 35) 22 rfl base 5 i0 (.int .u8 0) 1 1 Tryz.underlying22 ai ah ag af rfl (by decide) v3 x3.length (x3.map (Value.int .u8)) rfl bu.out ⟨w3.heap.size,0,none⟩ 1 1 ([32].map (Value.int .u8)) rfl rfl (new1 _ _ _ rfl) (oneCB _) (by unfold maxLen;omega) (by omega) bs.out ?_;intro v4 w4 z A D;have b8:Hid (OwnB base w4 v4 (x3++[32])∧Keep5 base _ w4):=ownB_app bu.out bs.out z A;clear z A D));go_meet
  case rel =>
   rw [aI.out];refine ⟨?_,a4.out.trans (aL.out.2.trans ((Keep5.of_below ac.out aN).trans b8.out.2)),(aa.out.keep5 aL.out.2).keep5 ((Keep5.of_below ac.out aN).trans b8.out.2)⟩;have:=b8.out.1;rw [bM.out,bK.out,List.append_assoc] at this;exact this
 case rest =>
  obtain ⟨aV,ar,av⟩:=hcut;clear b0 b1 b2 b3;obtain ⟨b0,b1,b2,b3⟩:=av.cells;have bg:Hid (Keep5 base w wc):=ar;obtain ⟨x5,aC⟩:∃ x5,x5=x2++roleT c.role:=⟨_,rfl⟩;rw [← aC] at aV;have bX:x5.length=x2.length+(roleT c.role).length:=by rw [aC];simp
  have bd:Hid (xs++textC c=x5++textJ 0 c.kids++[41]):=by unfold Hid;rw [ae.out,aC,bN.out]
  have bS:Hid (OwnB base wc u0 x5):=aV;clear aV ar av aC aJ a4 aa ae;go_wp2_with fail;go_loopw [0,40] (fun v i W=>∃ j:Nat,j≤kn∧i=.int .i64 j∧OwnB base W v (x5++textJ 0 (c.kids.take j))∧Keep5 base w W) (fun _ i _=>kn - (intOf i).toNat)
  case atStart=>exact ⟨0,Nat.zero_le _,rfl,by simpa [textJ] using bS.out,bg.out⟩
  case round =>
   obtain ⟨j,hj,rfl,aU,a3⟩:=hrel;have ay:Hid (Keep5 base w wr):=a3;have ak:base≤wr.heap.size:=Nat.le_trans E a3.1.size;obtain ⟨x6,aB⟩:∃ x6,x6=x5++textJ 0 (c.kids.take j):=⟨_,rfl⟩;rw [← aB] at aU;have aX:Hid (x6=x5++textJ 0 (c.kids.take j)):=aB;have bW:x6.length≤x5.length+(textJ 0 c.kids).length:=by rw [aB,List.length_append];have:=textJ_take_le c.kids j;omega
   have b5:Hid (OwnB base wr u0 x6):=aU;clear aU aB;by_cases hlt:j<kn
   · have bn:j<c.kids.length:=by rw [bx.out];exact hlt
     have ce:(j:Int)<(kn:Int):=by omega
     have hT:=textJ_take_succ c.kids j bn;have bc:=textJ_take_le c.kids (j+1);have HT:Hid (textJ 0 (c.kids.take (j+1))=textJ 0 (c.kids.take j)++gapT j++textC (c.kids.getD j CN.zero)):=hT
     have bV:x6.length+(gapT j).length+(textC (c.kids.getD j CN.zero)).length≤x5.length+(textJ 0 c.kids).length:=by
      have e1:=congrArg List.length hT;have e2:=congrArg List.length aX.out;simp only [List.length_append] at e1 e2;omega
     have hR:=bT.out.below a3.1 an;rcases hR.cells with hz | ⟨b,off,e1,_,_,hc⟩
     · omega
     subst e1;obtain ⟨v0,c6,v2,v3,q0,q1,q2,q3,aQ⟩:=hc j hlt;obtain ⟨yk,T,N,O,J,G,I,X,U,V,rfl,rfl,rfl,rfl⟩:=aQ.form4;have bh:Hid (RdC lo hi wr d (.agg #[.int .i64 yk,.slice T N O,.slice J G I,.slice X U V]) (c.kids.getD j CN.zero)):=aQ;have bO:Hid (wfC (c.kids.getD j CN.zero)=true):=wfL_getD _ _ bn bP.out;have aH:Below wr.heap.size wr (wr.alloc (.cells #[.int .i64 yk,.slice T N O,.slice J G I,.slice X U V] 37)):=(Below.refl _ _).alloc (Nat.le_refl _) _;have ax:Hid (Keep5 base wr (wr.alloc (.cells #[.int .i64 yk,.slice T N O,.slice J G I,.slice X U V] 37))):=Keep5.of_below aH ak;have b4:Hid (OwnB base (wr.alloc (.cells #[.int .i64 yk,.slice T N O,.slice J G I,.slice X U V] 37)) u0 x6):=b5.out.below aH (Nat.le_refl _);have b9:Hid (BoxC (wr.alloc (.cells #[.int .i64 yk,.slice T N O,.slice J G I,.slice X U V] 37)) wr.heap.size (.int .i64 yk) (.slice T N O) (.slice J G I) (.slice X U V)):=BoxC.new wr _ _ _ _;have bj:base≤(wr.alloc (.cells #[.int .i64 yk,.slice T N O,.slice J G I,.slice X U V] 37)).heap.size:=Nat.le_trans ak aH.size;have aY:Hid (base≤(wr.alloc (.cells #[.int .i64 yk,.slice T N O,.slice J G I,.slice X U V] 37)).heap.size):=bj;clear hT bc hR hc aQ aH a3 bj;go_upto_if 46 with fail
     go_cut [0] (fun v W=>OwnB base W v (x6++gapT j)∧Keep5 base wr W∧BoxC W wr.heap.size (.int .i64 yk) (.slice T N O) (.slice J G I) (.slice X U V))
     case first =>
      by_cases hj0:0<j
      · have a0:Hid (Below (wr.alloc (.cells #[.int .i64 yk,.slice T N O,.slice J G I,.slice X U V] 37)).heap.size (wr.alloc (.cells #[.int .i64 yk,.slice T N O,.slice J G I,.slice X U V] 37)) ((wr.alloc (.cells #[.int .i64 yk,.slice T N O,.slice J G I,.slice X U V] 37)).alloc (.cells #[.int .u8 32] 5))):=(Below.refl _ _).alloc (Nat.le_refl _) _;have a6:Hid (OwnB base ((wr.alloc (.cells #[.int .i64 yk,.slice T N O,.slice J G I,.slice X U V] 37)).alloc (.cells #[.int .u8 32] 5)) u0 x6):=b4.out.below a0.out (Nat.le_refl _);have a5:Hid (base≤((wr.alloc (.cells #[.int .i64 yk,.slice T N O,.slice J G I,.slice X U V] 37)).alloc (.cells #[.int .u8 32] 5)).heap.size):=Nat.le_trans aY.out a0.out.size;go_wp2_with (at_builtin;refine wpList_append_own _ rfl (.tmp 47) (.tmp 48) 22 rfl base 5 i0 (.int .u8 0) 1 1 Tryz.underlying22 ai ah ag af rfl (by decide) u0 x6.length (x6.map (Value.int .u8)) rfl a6.out ⟨wr.heap.size+1,0,none⟩ 1 1 ([32].map (Value.int .u8)) rfl rfl (new1 _ _ _ (by simp)) (oneCB _) (by unfold maxLen;omega) (by omega) a5.out ?_;intro v7 w7 z A D;have b7:Hid (OwnB base w7 v7 (x6++[32])∧Keep5 base _ w7):=ownB_app a6.out a5.out z A;clear z A D);go_meet
        case rel=>rw [gapT_pos hj0];exact ⟨b7.out.1,ax.out.trans ((Keep5.of_below a0.out aY.out).trans b7.out.2),b9.out.keep5 ((Keep5.of_below a0.out aY.out).trans b7.out.2)⟩
      have bb:j=0:=by omega
      subst bb;go_wp2_with fail;go_meet
      case rel=>rw [gapT_zero,List.append_nil];exact ⟨b4.out,ax.out,b9.out⟩
     case rest =>
      obtain ⟨aT,a7,au⟩:=hcut;obtain ⟨c0,c1,c2,c3⟩:=au.cells;have bf:Hid (Keep5 base wr wc):=a7;have bC:base≤wc.heap.size:=Nat.le_trans ak a7.1.size;obtain ⟨x7,aA⟩:∃ x7,x7=x6++gapT j:=⟨_,rfl⟩;rw [← aA] at aT;have bU:x7.length=x6.length+(gapT j).length:=by rw [aA];simp
      have bL:Hid (x7++textC (c.kids.getD j CN.zero)=x5++textJ 0 (c.kids.take (j+1))):=by unfold Hid;rw [HT.out,aA,aX.out];simp
      have bR:Hid (OwnB base wc u0 x7):=aT;have az:Hid (RdC lo hi wc d (.agg #[.int .i64 yk,.slice T N O,.slice J G I,.slice X U V]) (c.kids.getD j CN.zero)):=bh.out.below a7.1 an;clear aT a7 au aA b5 b4 b9;go_wp2_with fail;refine (H (.agg #[.int .i64 yk,.slice T N O,.slice J G I,.slice X U V]) (c.kids.getD j CN.zero) u0 x7 wc base lo hi az.out an bC bO.out bR.out (by omega)).mono ?_;rintro e w8 ⟨v8,rfl,bo,aq⟩;have bQ:Hid (OwnB base w8 v8 (x5++textJ 0 (c.kids.take (j+1)))):=by unfold Hid;rw [← bL.out];exact bo
      have be:Hid (Keep5 base w w8):=ay.out.trans (bf.out.trans aq);clear bo aq;go_wp2_with fail;go_roundw
      case rel=>exact ⟨j+1,by omega,by go_num,bQ.out,be.out⟩
      case measure=>simp [intOf];omega
   have HE:Hid (xs++textC c=x6++[41]):=by unfold Hid;rw [bd.out,aX.out,List.take_of_length_le (by rw [bx.out];omega)]
   have a0:Hid (Below wr.heap.size wr (wr.alloc (.cells #[.int .u8 41] 5))):=(Below.refl _ _).alloc (Nat.le_refl _) _;have a6:Hid (OwnB base (wr.alloc (.cells #[.int .u8 41] 5)) u0 x6):=b5.out.below a0.out (Nat.le_refl _);have a5:Hid (base≤(wr.alloc (.cells #[.int .u8 41] 5)).heap.size):=Nat.le_trans ak a0.out.size;clear a3;go_wp2_with (at_builtin;refine wpList_append_own _ rfl (.tmp 54) (.tmp 55) 22 rfl base 5 i0 (.int .u8 0) 1 1 Tryz.underlying22 ai ah ag af rfl (by decide) u0 x6.length (x6.map (Value.int .u8)) rfl a6.out ⟨wr.heap.size,0,none⟩ 1 1 ([41].map (Value.int .u8)) rfl rfl (new1 _ _ _ rfl) (oneCB _) (by unfold maxLen;omega) (by omega) a5.out ?_;intro v9 w9 z A D;have bA:Hid (OwnB base w9 v9 (x6++[41])∧Keep5 base _ w9):=ownB_app a6.out a5.out z A;clear z A D);go_ret;exact ⟨_,rfl,by rw [HE.out];exact bA.out.1,ay.out.trans ((Keep5.of_below a0.out ak).trans bA.out.2)⟩
theorem addC_any:∀ d,SayC 58 d
 | 0=>fun _ _ _ _ _ _ _ _ h=>h.elim
 | d+1=>addC_of (addC_any d)
end

section
open Go.RowKit Go.Shelf
attribute [local go_sem] Oper.semAt_some
abbrev PosOf (zs:List Int):={ i:Nat // i<zs.length∧blankB (zs.getD i 0)=false }
def posFrom (zs:List Int):Nat→Nat→List (PosOf zs)
 | 0,_=>[]
 | f+1,i=>if h:i<zs.length then (if hb:blankB (zs.getD i 0)=false then ⟨i,h,hb⟩ :: posFrom zs f (pend zs i) else posFrom zs f (i+1)) else []
theorem posFrom_stop (zs:List Int) (f i:Nat) (h:zs.length≤i):posFrom zs f i=[]:=by
 cases f with
 | zero=>rfl
 | succ f=>rw [posFrom,dif_neg (by omega)]
theorem posFrom_blank (zs:List Int) (f i:Nat) (h:i<zs.length) (hb:blankB (zs.getD i 0)=true):posFrom zs (f+1) i=posFrom zs f (i+1):=by
 rw [posFrom,dif_pos h,dif_neg (by rw [hb];simp)]
theorem posFrom_piece (zs:List Int) (f i:Nat) (h:i<zs.length) (hb:blankB (zs.getD i 0)=false):posFrom zs (f+1) i=⟨i,h,hb⟩ :: posFrom zs f (pend zs i):=by
 rw [posFrom,dif_pos h,dif_pos hb]
def encP (zs:List Int) (b off j:Nat) (x:PosOf zs):Array Value:=#[.int .i64 (x.1:Nat),.slice (some ⟨b,off+x.1,none⟩) (pend zs x.1 - x.1) (j - x.1)]
def KpT (B Bs:Nat) (W W':World):Prop:=Below B W W'∧W'.heap[Bs]?=W.heap[Bs]?
theorem KpT.refl (B Bs:Nat) (W:World):KpT B Bs W W:=⟨Below.refl _ _,rfl⟩
theorem KpT.trans {B Bs:Nat} {A C D:World} (h:KpT B Bs A C) (k:KpT B Bs C D):KpT B Bs A D:=⟨h.1.trans k.1,k.2.trans h.2⟩
set_option maxRecDepth 100000 in
set_option maxHeartbeats 2000000 in
theorem pieces1_in (n l Bs B b off len j:Nat) (Z:1≤n) (zs:List Int) (hl:zs.length=len) (a9:len≤j) (_hcap:j≤9223372036854775807) (_hb:b<B) (_hbig:len≤1500) (J Jx:List (PosOf zs)→World→Prop)
    (hY:∀ pre x W,J pre W→pre.length<len+1→YieldAt Fence.wide (n - 1) Tryz.prog l (encP zs b off j x) W fun e W' =>
     (e=.returned (.bool true)∧J (pre++[x]) W'∧KpT B Bs W W')∨(e=.returned (.bool false)∧Jx (pre++[x]) W'))
    (W:World) (I:W.cell? ⟨Bs,0,none⟩=some (.slice (some ⟨b,off,none⟩) len j)) (hR:Rd 0 B W (some ⟨b,off,none⟩) len j zs) (h0:J [] W) :
    CallsIn Fence.wide n Tryz.prog 98 #[.func (.yield l) #[] #[],.pointer (some ⟨Bs,0,none⟩)] W fun e W'=>(∃ v,e=.returned v) ∧
     ((∃ ys,ys=posFrom zs (len+1) 0∧J ys W')∨(∃ pre,pre <+: posFrom zs (len+1) 0∧Jx pre W')):=by
 have HR:Hid (Rd 0 B W (some ⟨b,off,none⟩) len j zs):=hR;have HL:Hid (zs.length=len):=hl;clear hR hl;refine callsIn_of_wp Tryz.func98 rfl trivial ?_ rfl;simp only [Tryz.ntmps98,List.size_toArray,List.length_cons,List.length_nil,Nat.reduceAdd,Nat.reduceSub,Array.replicate_succ,Array.replicate_zero,List.push_toArray,List.append_toArray,List.nil_append,List.cons_append]
 gi_wp2
 gi_loopw [3] (fun i wr=>∃ (k f:Nat) (pre:List (PosOf zs)),k≤len∧len+1≤f+k∧i=.int .i64 k∧pre.length≤k∧posFrom zs (len+1) 0=pre++posFrom zs f k∧J pre wr∧KpT B Bs W wr) (fun i _=>len - (intOf i).toNat)
 case atStart=>exact ⟨0,len+1,[],Nat.zero_le _,by omega,rfl,by simp,rfl,h0,KpT.refl _ _ _⟩
 case round =>
  obtain ⟨k,f,pre,hk,hf,rfl,a8,H,hJ,hK⟩:=hrel;have HP:Hid (posFrom zs (len+1) 0=pre++posFrom zs f k):=H;have a7:wr.cell? ⟨Bs,0,none⟩=some (.slice (some ⟨b,off,none⟩) len j):=(World.cell?_of_block (w:=W) hK.2).trans I;by_cases hlt:k<len
  · have z:k<zs.length:=by rw [HL.out];exact hlt
    have U:=HR.out.same (Same.of_below hK.1 (Nat.le_refl _));have a0:Hid (Rd 0 B wr (some ⟨b,off,none⟩) len j zs):=U;obtain ⟨c,HC⟩:∃ c,Hid (c=zs.getD k 0):=⟨_,rfl⟩
    have aa:wr.cell? ⟨b,off+k,none⟩=some (.int .u8 c):=by
     rcases U.cells with h0 | ⟨b',off',e,_,_,a2⟩
     · omega
     simp only [Option.some.injEq,Addr.mk.injEq,and_true] at e;obtain ⟨rfl,rfl⟩:=e;rw [HC.out];exact a2 k hlt
    obtain ⟨st,O⟩:∃ st,Hid (st=pendI zs k):=⟨_,rfl⟩;obtain ⟨f',rfl⟩:∃ f',f=f'+1:=⟨f - 1,by omega⟩;have HK:Hid (KpT B Bs W wr):=hK;clear H U hK;cases N:blankB c
    · have E:blankB (zs.getD k 0)=false:=by rw [← HC.out];exact N
      have F:Hid (st=pend zs k):=by unfold Hid;rw [O.out,pendI,E];simp
      have V:k<st:=by rw [F.out];exact pend_gt zs k
      have G:st≤len:=by rw [F.out,← HL.out];exact pend_le zs k z
      have a6:¬ j=k:=by omega
      have T:=hY pre ⟨k,z,E⟩ wr hJ (by omega);unfold encP at T;rw [show pend zs (⟨k,z,E⟩:PosOf zs).1=st from F.out.symm] at T;obtain ⟨fn,tmps,assign,body,hy,a3⟩:=T;dsimp only at hy
      gi_wp2_with (first | (refine ⟨trivial,?_⟩;gi_at_call 99;refine (callsIn_wide.2 (pieceEnd_any _ _ _ zs k _ a0.out hlt)).mono ?_;rintro e w1 ⟨rfl,hw⟩;subst hw;rw [← O.out]) | (refine ⟨trivial,?_⟩;gi_at_call 100;refine (callsIn_wide.2 (isBlank_any _ _)).mono ?_;rintro e w1 ⟨rfl,hw⟩;subst hw;rw [N]))
      refine a3.mono ?_;rintro e W3 (⟨rfl,a4,a1⟩ | ⟨rfl,Y⟩)
      · have HN:Hid (posFrom zs (len+1) 0=(pre++[⟨k,z,E⟩])++posFrom zs f' st):=by
         unfold Hid;rw [HP.out,posFrom_piece zs f' k z E,F.out];simp
        have a5:=HK.out.trans a1
        gi_wp2
        go_roundw
        case rel=>exact ⟨st,f',pre++[⟨k,z,E⟩],G,by omega,rfl,by simp;omega,HN.out,a4,a5⟩
        case measure=>simp [intOf];omega
      have HN:Hid (pre++[⟨k,z,E⟩] <+: posFrom zs (len+1) 0):=by
       unfold Hid;rw [HP.out,posFrom_piece zs f' k z E];exact ⟨posFrom zs f' (pend zs k),by simp⟩
      gi_wp2
      refine bodyPost_ret (results_none rfl _ _ _) rfl ?_;exact ⟨⟨_,rfl⟩,.inr ⟨_,HN.out,Y⟩⟩
    have F:Hid (st=k+1):=by unfold Hid;rw [O.out];exact pendI_short zs k (.inl (by rw [← HC.out];exact N))
    have HN:Hid (posFrom zs (len+1) 0=pre++posFrom zs f' st):=by
     unfold Hid;rw [HP.out,posFrom_blank zs f' k z (by rw [← HC.out];exact N),F.out]
    have G:st≤len:=by rw [F.out];omega
    have V:k<st:=by rw [F.out];omega
    gi_wp2_with (first | (refine ⟨trivial,?_⟩;gi_at_call 99;refine (callsIn_wide.2 (pieceEnd_any _ _ _ zs k _ a0.out hlt)).mono ?_;rintro e w1 ⟨rfl,hw⟩;subst hw;rw [← O.out]) | (refine ⟨trivial,?_⟩;gi_at_call 100;refine (callsIn_wide.2 (isBlank_any _ _)).mono ?_;rintro e w1 ⟨rfl,hw⟩;subst hw;rw [N]))
    refine ⟨fun _ h=>(by cases h),?_⟩
    gi_wp2
    go_roundw
    case rel=>exact ⟨st,f',pre,G,by omega,rfl,by omega,HN.out,hJ,HK.out⟩
    case measure=>simp [intOf];omega
  have HE:Hid (posFrom zs (len+1) 0=pre):=by unfold Hid;rw [HP.out,posFrom_stop zs f k (by rw [HL.out];omega),List.append_nil]
  clear H
  gi_wp2
  go_end0;exact ⟨⟨_,rfl⟩,.inl ⟨_,HE.out.symm,hJ⟩⟩
set_option maxRecDepth 100000 in
set_option maxHeartbeats 1000000 in
theorem pieces1_nil_in (n l Bs j:Nat) (a:Option Addr) (zs:List Int) (hl:zs.length=0) (J:List (PosOf zs)→World→Prop) (W:World) (I:W.cell? ⟨Bs,0,none⟩=some (.slice a 0 j)) (h0:J [] W) :
    CallsIn Fence.wide n Tryz.prog 98 #[.func (.yield l) #[] #[],.pointer (some ⟨Bs,0,none⟩)] W fun e W'=>(∃ v,e=.returned v)∧(∃ ys,ys=posFrom zs (0+1) 0∧J ys W'):=by
 refine callsIn_of_wp Tryz.func98 rfl trivial ?_ rfl;simp only [Tryz.ntmps98,List.size_toArray,List.length_cons,List.length_nil,Nat.reduceAdd,Nat.reduceSub,Array.replicate_succ,Array.replicate_zero,List.push_toArray,List.append_toArray,List.nil_append,List.cons_append];have HE:Hid (posFrom zs (0+1) 0=[]):=posFrom_stop zs _ _ (by omega);clear hl
 gi_wp2
 gi_loopw [3] (fun i wr=>i=.int .i64 0∧wr=W) (fun _ _=>0)
 case atStart=>exact ⟨rfl,rfl⟩
 case round =>
  obtain ⟨rfl,rfl⟩:=hrel
  gi_wp2
  go_end0;exact ⟨⟨_,rfl⟩,[],HE.out.symm,h0⟩
set_option maxHeartbeats 1000000 in
theorem pieces_in (n:Nat) (a:Option Addr) (len j:Nat) (w:World) :
    CallsIn Fence.wide n Tryz.prog 72 #[.slice a len j] w fun e w'=>e=.returned (.func (.func 98) #[] #[.pointer (some ⟨w.heap.size,0,none⟩)])∧w'=w.alloc (.cells #[.slice a len j] 22):=by
 refine callsIn_of_wp Tryz.func72 rfl trivial ?_ rfl;simp only [Tryz.ntmps72,List.size_toArray,List.length_cons,List.length_nil,Nat.reduceAdd,Nat.reduceSub,Array.replicate_succ,Array.replicate_zero,List.push_toArray,List.append_toArray,List.nil_append,List.cons_append]
 gi_wp2
 go_ret;exact ⟨rfl,rfl⟩
theorem pieces_stops (n Bs B b off len j:Nat) (Z:1≤n) (zs:List Int) (hb:b<B) (X:len≤1500) (w:World) (I:Bs<w.heap.size) (hB:B≤w.heap.size)
    (hc:w.cell? ⟨Bs,0,none⟩=some (.slice (some ⟨b,off,none⟩) len j)) (hR:Rd 0 B w (some ⟨b,off,none⟩) len j zs) :
    SeqStopsK Fence.wide n Tryz.prog 98 #[.pointer (some ⟨Bs,0,none⟩)] (encP zs b off j) (KpT B Bs) (fun ys=>ys=posFrom zs (len+1) 0) (fun pre=>pre <+: posFrom zs (len+1) 0) (len+1) w:=fun l J Jx W hW _ _ hY h0=>by
 refine pieces1_in n l Bs B b off len j Z zs hR.len hR.fits.1 hR.fits.2 hb X J Jx hY W ((hW.cell (p:=⟨Bs,0,none⟩) I).trans hc) (hR.below hW hB) h0
theorem pieces_stops_nil (n Bs B b off j:Nat) (a:Option Addr) (zs:List Int) (hl:zs.length=0) (w:World) (I:Bs<w.heap.size) (hc:w.cell? ⟨Bs,0,none⟩=some (.slice a 0 j)) :
    SeqStopsK Fence.wide n Tryz.prog 98 #[.pointer (some ⟨Bs,0,none⟩)] (encP zs b off j) (KpT B Bs) (fun ys=>ys=posFrom zs (0+1) 0) (fun pre=>pre <+: posFrom zs (0+1) 0) (0+1) w:=fun l J Jx W hW _ _ _ h0=>by
 exact (pieces1_nil_in n l Bs j a zs hl J W ((hW.cell (p:=⟨Bs,0,none⟩) I).trans hc) h0).mono fun e W' ⟨he,hj⟩=>⟨he,.inl hj⟩
end

end Go.Proofs.YtocpeiaolofodaaGreat
