/- The model's text of a concept: for every concept that is as its kinds ask it lays 'textC' behind what is there. -/
import Derived.Test.YtellcgmabimieaaGreatDoorNG10
import Derived.Deep.RegionLaw
import Derived.Deep.DeepCutAuto
namespace Go.Proofs.YtellcgmabimieaaGreatDoor
open Go.RowKit
def SayC (f:Nat) (d:Nat):Prop:=∀ (v:Value) (c:CN) (bv:Value) (xs:List Int) (w:World) (base lo hi:Nat),RdC lo hi w d v c→hi≤base→base≤w.heap.size→wfC c=true→OwnB base w bv xs→xs.length+(textC c).length≤1073741824 →
 Calls Tryz.prog f #[bv,v] w fun e w'=>∃ bv',e=.returned bv'∧OwnB base w' bv' (xs++textC c)∧Keep5 base w w'
set_option maxRecDepth 100000 in
set_option maxHeartbeats 4000000 in
theorem sayC_of {d:Nat} (H:SayC 88 d):SayC 88 (d+1):=by
 intro v c bv xs w base lo hi h ay A ax hO aP;obtain ⟨na,nn,nc,ra,rn,rc,ka,kn,kc,rfl,hn,hr,hk⟩:=h;rw [wfC_eq,Bool.and_eq_true] at ax;obtain ⟨⟨bt,bs⟩,F,L,M⟩:=shape_facts ax.1;have bC:Hid (wfL c.kids=true):=ax.2;have I:=textC_eq c;have bi:Hid (c.kids.length=kn):=hk.len;have bX:=hk.fits;have bW:=hn.fits;have bU:=hr.fits;have ae:=hn.len;have ad:=hr.len;obtain ⟨k,b9⟩:∃ k,k=c.kind:=⟨_,rfl⟩;rw [← b9] at bt bs F L M I ⊢;rw [hk.len] at I;obtain ⟨i0,a4,a3,a2,a1⟩:=info_parts Tryz.info5;have aj:Below w.heap.size w (w.alloc (.cells #[.int .i64 k,.slice na nn nc,.slice ra rn rc,.slice ka kn kc] 104)):=(Below.refl _ _).alloc (Nat.le_refl _) _;have bj:Hid (Keep5 base w (w.alloc (.cells #[.int .i64 k,.slice na nn nc,.slice ra rn rc,.slice ka kn kc] 104))):=Keep5.of_below aj A;have an:Hid (BoxC (w.alloc (.cells #[.int .i64 k,.slice na nn nc,.slice ra rn rc,.slice ka kn kc] 104)) w.heap.size (.int .i64 k) (.slice na nn nc) (.slice ra rn rc) (.slice ka kn kc)):=BoxC.new w _ _ _ _;have aM:Hid (OwnB base (w.alloc (.cells #[.int .i64 k,.slice na nn nc,.slice ra rn rc,.slice ka kn kc] 104)) bv xs):=hO.below aj (Nat.le_refl _);have HN:Hid (Rd lo hi w na nn nc c.name):=hn;have HR:Hid (Rd lo hi w ra rn rc c.role):=hr;have bG:Hid (RdL (RdC lo hi w d) lo hi w ka kn kc c.kids):=hk;have ak:base≤(w.alloc (.cells #[.int .i64 k,.slice na nn nc,.slice ra rn rc,.slice ka kn kc] 104)).heap.size:=by simp;omega
 have T:Hid (base≤(w.alloc (.cells #[.int .i64 k,.slice na nn nc,.slice ra rn rc,.slice ka kn kc] 104)).heap.size):=ak;clear hk ax hO b9 ak;by_cases k2:k=2
 · subst k2;rw [if_pos rfl] at I;have a0:Hid (textC c=c.name):=I;obtain ⟨bq,_⟩:=F rfl;rw [ae] at bq;have br:c.name.length=nn:=ae;rw [I,ae] at aP;have aK:=hn.below aj (Nat.le_trans ay A);rcases aK.cells with hz | ⟨b',off',bp,_,_,_⟩
   · omega
   subst bp;have D:Hid (∀ j u,(c.name.map (Value.int .u8))[j]?=some u→(w.alloc (.cells #[.int .i64 2,.slice (some ⟨b',off',none⟩) nn nc,.slice ra rn rc,.slice ka kn kc] 104)).cell? ((⟨b',off',none⟩:Addr).add j)=some u):=rd_news aK;have ah:(c.name.map (Value.int .u8)).length=nn*1:=by simp [ae]
   obtain ⟨ys,Z⟩:∃ ys,ys=c.name:=⟨_,rfl⟩;rw [← Z] at D ah ae a0;subst ae;clear aK hn hr aj F L M I Z br;go_enter Tryz.func88, Tryz.ntmps88;go_wp2_with (first | (at_builtin;refine wpList_append_own _ rfl (.tmp 9) (.tmp 11) 89 rfl base 5 i0 (.int .u8 0) 1 1 Tryz.underlying89 a4 a3 a2 a1 rfl (by decide) bv xs.length (xs.map (Value.int .u8)) rfl aM.out ⟨b',off',none⟩ ys.length nc (ys.map (Value.int .u8)) rfl ah D.out (oneCB _) (by unfold maxLen;omega) (by omega) T.out ?_;intro v' w2 o q z;have HF:Hid (OwnB base w2 v' (xs++ys)∧Keep5 base _ w2):=ownB_app aM.out T.out o q;clear o q z));go_ret;exact ⟨_,rfl,by rw [a0.out];exact HF.out.1,bj.out.trans HF.out.2⟩
 rw [if_neg k2] at I;have bY:(k == 2)=false:=by simpa using k2
 have bT:=wordOf_len k;obtain ⟨kk,rfl⟩:∃ kk:Nat,k=(kk:Int):=⟨k.toNat,by omega⟩;have aQ:kk<8:=by omega
 have bQ:(kk:Int)<8:=by omega
 have aU:Hid (OwnB base (w.alloc (.cells #[.int .i64 (kk:Int),.slice na nn nc,.slice ra rn rc,.slice ka kn kc] 104)).drew bv xs):=aM.out.below (B:=(w.alloc (.cells #[.int .i64 (kk:Int),.slice na nn nc,.slice ra rn rc,.slice ka kn kc] 104)).heap.size) ((Below.refl _ _).drew) (Nat.le_refl _);have aZ:Hid (Keep5 base w (w.alloc (.cells #[.int .i64 (kk:Int),.slice na nn nc,.slice ra rn rc,.slice ka kn kc] 104)).drew):=bj.out.drew;have bS:xs.length+4≤1073741900:=by omega
 have be:Hid ((wordB (kk:Int)).size≤4):=by unfold Hid;rw [wordB_size];exact wordOf_len _
 clear F hn hr aj;go_enter Tryz.func88, Tryz.ntmps88;go_upto_region 3 with fail;go_cut [0] (fun v W=>OwnB base W v (xs++wordOf (kk:Int))∧Keep5 base w W∧BoxC W w.heap.size (.int .i64 (kk:Int)) (.slice na nn nc) (.slice ra rn rc) (.slice ka kn kc))
 case first =>
  go_region_law (first
   | (refine step_append_str rfl (.tmp 13) (.tmp 18) 89 9 rfl base 5 i0 Tryz.underlying89 Tryz.underlying9 a4 a3 a2 a1 bv xs.length (xs.map (Value.int .u8)) (by simp [Act.eval]) af.out (wordB (kk:Int)) (by simp [Act.eval]) (by have:=be.out;unfold maxLen;omega) (by have:=be.out;omega) bg.out ?_;intro v' w2 o q;have HF:Hid (OwnB base w2 v' (xs++wordOf (kk:Int))∧Keep5 base w1 w2):=ownB_str af.out bg.out o q;clear o q)
   | (go_simp;refine (l2words_any _).mono ?_;rintro e w1 ⟨rfl,bb,ai⟩;have af:Hid (OwnB base w1 bv xs):=aU.out.below ai (Nat.le_refl _);have bH:Hid (Keep5 base w w1):=aZ.out.trans (Keep5.of_below ai T.out);have G:Hid (BoxC w1 w.heap.size (.int .i64 (kk:Int)) (.slice na nn nc) (.slice ra rn rc) (.slice ka kn kc)):=an.out.below (W:=(w.alloc (.cells #[.int .i64 (kk:Int),.slice na nn nc,.slice ra rn rc,.slice ka kn kc] 104)).drew) ai an.out.lt;have bg:Hid (base≤w1.heap.size):=Nat.le_trans T.out ai.size;have c4:w1.cell? ⟨w.heap.size+1,kk,none⟩=some (.string (wordB (kk:Int))):=(by have hq:=bb kk aQ;rw [show (w.alloc (.cells #[.int .i64 (kk:Int),.slice na nn nc,.slice ra rn rc,.slice ka kn kc] 104)).drew.heap.size=w.heap.size+1 from World.size_alloc _ _] at hq;exact hq);obtain ⟨b0,b1,b2,b3⟩:=G.out.cells;clear bb ai))
  all_goals
   (try go_simp);go_wp2_with fail;go_meet
   case rel=>exact ⟨HF.out.1,bH.out.trans HF.out.2,G.out.keep5 HF.out.2⟩
 case rest =>
  obtain ⟨aJ,a7,aa⟩:=hcut;obtain ⟨b0,b1,b2,b3⟩:=aa.cells;have ab:Hid (Keep5 base w wc):=a7;have G:Hid (BoxC wc w.heap.size (.int .i64 (kk:Int)) (.slice na nn nc) (.slice ra rn rc) (.slice ka kn kc)):=aa;have b7:base≤wc.heap.size:=Nat.le_trans A a7.1.size;obtain ⟨x1,av⟩:∃ x1,x1=xs++wordOf (kk:Int):=⟨_,rfl⟩;rw [← av] at aJ;have bd:Hid (x1=xs++wordOf (kk:Int)):=av;have bO:x1.length≤xs.length+4:=by rw [av,List.length_append];omega
  have af:Hid (OwnB base wc u0 x1):=aJ;clear aJ a7 aa av;by_cases hkn:kn=0
  · subst hkn;rw [if_pos rfl] at I;have a0:Hid (xs++textC c=x1):=by unfold Hid;rw [I,bd.out]
    go_wp2_with fail;go_ret;exact ⟨_,rfl,by rw [a0.out];exact af.out,ab.out⟩
  rw [if_neg hkn] at I;have bP:((kn:Int) == 0)=false:=by simp;omega
  have a0:Hid (xs++textC c=x1++[40]++roleT c.role++textJ 0 c.kids++[41]):=by unfold Hid;rw [I,bd.out];simp
  have c5:x1.length+1+(roleT c.role).length+(textJ 0 c.kids).length+1≤1073741824:=by
   have:=congrArg List.length a0.out;simp only [List.length_append,List.length_cons,List.length_nil] at this;omega
  have E:Hid (Below wc.heap.size wc (wc.alloc (.cells #[.int .u8 40] 5))):=(Below.refl _ _).alloc (Nat.le_refl _) _;have O:Hid (OwnB base (wc.alloc (.cells #[.int .u8 40] 5)) u0 x1):=af.out.below E.out (Nat.le_refl _);have N:Hid (base≤(wc.alloc (.cells #[.int .u8 40] 5)).heap.size):=Nat.le_trans b7 E.out.size;go_upto_if 31 with (at_builtin;refine wpList_append_own _ rfl (.tmp 25) (.tmp 26) 89 rfl base 5 i0 (.int .u8 0) 1 1 Tryz.underlying89 a4 a3 a2 a1 rfl (by decide) u0 x1.length (x1.map (Value.int .u8)) rfl O.out ⟨wc.heap.size,0,none⟩ 1 1 ([40].map (Value.int .u8)) rfl rfl (new1 _ _ _ rfl) (oneCB _) (by unfold maxLen;omega) (by omega) N.out ?_;intro v' w2 o q z;have HF:Hid (OwnB base w2 v' (x1++[40])∧Keep5 base _ w2):=ownB_app O.out N.out o q;clear o q z;have J:Hid (Keep5 base w w2):=(ab.out.trans (Keep5.of_below E.out b7)).trans HF.out.2;have V:Hid (BoxC w2 w.heap.size (.int .i64 (kk:Int)) (.slice na nn nc) (.slice ra rn rc) (.slice ka kn kc)):=(G.out.below E.out G.out.lt).keep5 HF.out.2;clear b0 b1 b2 b3;obtain ⟨b0,b1,b2,b3⟩:=V.out.cells)
  obtain ⟨x2,au⟩:∃ x2,x2=x1++[40]:=⟨_,rfl⟩;have bA:Hid (x2=x1++[40]):=au;have bN:x2.length=x1.length+1:=by rw [au];simp
  have aB:Hid (OwnB base w2 v' x2):=by unfold Hid;rw [au];exact HF.out.1
  have aE:base≤w2.heap.size:=Nat.le_trans A J.out.1.size;clear HF au O N E af ab G;go_cut [0] (fun v W=>OwnB base W v (x2++roleT c.role)∧Keep5 base w W∧BoxC W w.heap.size (.int .i64 (kk:Int)) (.slice na nn nc) (.slice ra rn rc) (.slice ka kn kc))
  case first =>
   by_cases hr0:rn=0
   · subst hr0;have az:Hid (roleT c.role=[]):=by unfold Hid roleT;rw [if_pos (List.eq_nil_of_length_eq_zero ad)]
     go_wp2_with fail;go_meet
     case rel=>rw [az.out,List.append_nil];exact ⟨aB.out,J.out,V.out⟩
   have bV:(0:Int)<(rn:Int):=by omega
   have aF:=HR.out.below J.out.1 ay;rcases aF.cells with hz | ⟨b',off',bo,_,_,_⟩
   · omega
   subst bo;have az:Hid (roleT c.role=c.role++[32]):=by unfold Hid roleT;rw [if_neg (fun e=>by rw [e] at ad;simp at ad;omega)]
   have D:Hid (∀ j u,(c.role.map (Value.int .u8))[j]?=some u→w2.cell? ((⟨b',off',none⟩:Addr).add j)=some u):=rd_news aF;have ah:(c.role.map (Value.int .u8)).length=rn*1:=by simp [ad]
   obtain ⟨ys,Z⟩:∃ ys,ys=c.role:=⟨_,rfl⟩;have bu:Hid (ys=c.role):=Z;have bm:ys.length=rn:=by rw [Z];exact ad
   have bR:x2.length+ys.length+2≤1073741824:=by
    have e1:=congrArg List.length az.out;simp only [List.length_append,List.length_cons,List.length_nil] at e1;rw [Z];omega
   rw [← Z] at D ah;subst bm;clear aF Z ad;go_wp2_with (first | (at_builtin;refine wpList_append_own _ rfl (.tmp 32) (.tmp 34) 89 rfl base 5 i0 (.int .u8 0) 1 1 Tryz.underlying89 a4 a3 a2 a1 rfl (by decide) v' x2.length (x2.map (Value.int .u8)) rfl aB.out ⟨b',off',none⟩ ys.length rc (ys.map (Value.int .u8)) rfl ah D.out (oneCB _) (by unfold maxLen;omega) (by omega) aE ?_;intro v3 w3 o q z;have aC:Hid (OwnB base w3 v3 (x2++ys)∧Keep5 base w2 w3):=ownB_app aB.out aE o q;clear o q z;obtain ⟨x3,ar⟩:∃ x3,x3=x2++ys:=⟨_,rfl⟩;have bz:Hid (x3=x2++ys):=ar;have bM:x3.length=x2.length+ys.length:=(by rw [ar];simp);have aD:base≤w3.heap.size:=Nat.le_trans aE aC.out.2.1.size;have Y:Hid (Below w3.heap.size w3 (w3.alloc (.cells #[.int .u8 32] 5))):=(Below.refl _ _).alloc (Nat.le_refl _) _;have bh:Hid (OwnB base (w3.alloc (.cells #[.int .u8 32] 5)) v3 x3):=(by unfold Hid;rw [ar];exact aC.out.1.below Y.out (Nat.le_refl _));have bf:Hid (base≤(w3.alloc (.cells #[.int .u8 32] 5)).heap.size):=Nat.le_trans aD Y.out.size;clear ar) | (at_builtin;refine wpList_append_own _ rfl (.tmp 35) (.tmp 36) 89 rfl base 5 i0 (.int .u8 0) 1 1 Tryz.underlying89 a4 a3 a2 a1 rfl (by decide) v3 x3.length (x3.map (Value.int .u8)) rfl bh.out ⟨w3.heap.size,0,none⟩ 1 1 ([32].map (Value.int .u8)) rfl rfl (new1 _ _ _ rfl) (oneCB _) (by unfold maxLen;omega) (by omega) bf.out ?_;intro v4 w4 o q z;have aO:Hid (OwnB base w4 v4 (x3++[32])∧Keep5 base _ w4):=ownB_app bh.out bf.out o q;clear o q z));go_meet
   case rel =>
    rw [az.out];refine ⟨?_,J.out.trans (aC.out.2.trans ((Keep5.of_below Y.out aD).trans aO.out.2)),(V.out.keep5 aC.out.2).keep5 ((Keep5.of_below Y.out aD).trans aO.out.2)⟩;have:=aO.out.1;rw [bz.out,bu.out,List.append_assoc] at this;exact this
  case rest =>
   obtain ⟨aI,al,am⟩:=hcut;have aX:Hid (Keep5 base w wc):=al;have b6:Hid (BoxC wc w.heap.size (.int .i64 (kk:Int)) (.slice na nn nc) (.slice ra rn rc) (.slice ka kn kc)):=am;obtain ⟨x5,aq⟩:∃ x5,x5=x2++roleT c.role:=⟨_,rfl⟩;rw [← aq] at aI;have bL:x5.length=x2.length+(roleT c.role).length:=by rw [aq];simp
   have aT:Hid (xs++textC c=x5++textJ 0 c.kids++[41]):=by unfold Hid;rw [a0.out,aq,bA.out]
   have bF:Hid (OwnB base wc u0 x5):=aI;clear aI al am aq aB J V a0;go_wp2_with fail;go_loopw [0,5] (fun v i W=>∃ j:Nat,j≤kn∧i=.int .i64 j∧OwnB base W v (x5++textJ 0 (c.kids.take j))∧Keep5 base w W∧BoxC W w.heap.size (.int .i64 (kk:Int)) (.slice na nn nc) (.slice ra rn rc) (.slice ka kn kc)) (fun _ i _=>kn - (intOf i).toNat)
   case atStart=>exact ⟨0,Nat.zero_le _,rfl,by simpa [textJ] using bF.out,aX.out,b6.out⟩
   case round =>
    obtain ⟨j,hj,rfl,aH,a6,a9⟩:=hrel;obtain ⟨c0,c1,c2,c3⟩:=a9.cells;have U:Hid (Keep5 base w wr):=a6;have ac:Hid (BoxC wr w.heap.size (.int .i64 (kk:Int)) (.slice na nn nc) (.slice ra rn rc) (.slice ka kn kc)):=a9;have ag:base≤wr.heap.size:=Nat.le_trans A a6.1.size;obtain ⟨x6,ap⟩:∃ x6,x6=x5++textJ 0 (c.kids.take j):=⟨_,rfl⟩;rw [← ap] at aH;have aL:Hid (x6=x5++textJ 0 (c.kids.take j)):=ap;have bK:x6.length≤x5.length+(textJ 0 c.kids).length:=by rw [ap,List.length_append];have:=textJ_take_le c.kids j;omega
    have aA:Hid (OwnB base wr u0 x6):=aH;clear aH a6 a9 ap;by_cases hlt:j<kn
    · have ba:j<c.kids.length:=by rw [bi.out];exact hlt
      have bZ:(j:Int)<(kn:Int):=by omega
      have hT:=textJ_take_succ c.kids j ba;have aS:=textJ_take_le c.kids (j+1);have HT:Hid (textJ 0 (c.kids.take (j+1))=textJ 0 (c.kids.take j)++gapT j++textC (c.kids.getD j CN.zero)):=hT
      have bJ:x6.length+(gapT j).length+(textC (c.kids.getD j CN.zero)).length≤x5.length+(textJ 0 c.kids).length:=by
       have e1:=congrArg List.length hT;have e2:=congrArg List.length aL.out;simp only [List.length_append] at e1 e2;omega
      clear hT aS;go_upto_if 46 with fail
      go_cut [0] (fun v W=>OwnB base W v (x6++gapT j)∧Keep5 base w W∧BoxC W w.heap.size (.int .i64 (kk:Int)) (.slice na nn nc) (.slice ra rn rc) (.slice ka kn kc))
      case first =>
       by_cases hj0:0<j
       · have E:Hid (Below wr.heap.size wr (wr.alloc (.cells #[.int .u8 32] 5))):=(Below.refl _ _).alloc (Nat.le_refl _) _;have O:Hid (OwnB base (wr.alloc (.cells #[.int .u8 32] 5)) u0 x6):=aA.out.below E.out (Nat.le_refl _);have N:Hid (base≤(wr.alloc (.cells #[.int .u8 32] 5)).heap.size):=Nat.le_trans ag E.out.size;go_wp2_with (at_builtin;refine wpList_append_own _ rfl (.tmp 47) (.tmp 48) 89 rfl base 5 i0 (.int .u8 0) 1 1 Tryz.underlying89 a4 a3 a2 a1 rfl (by decide) u0 x6.length (x6.map (Value.int .u8)) rfl O.out ⟨wr.heap.size,0,none⟩ 1 1 ([32].map (Value.int .u8)) rfl rfl (new1 _ _ _ rfl) (oneCB _) (by unfold maxLen;omega) (by omega) N.out ?_;intro v7 w7 o q z;have aN:Hid (OwnB base w7 v7 (x6++[32])∧Keep5 base _ w7):=ownB_app O.out N.out o q;clear o q z);go_meet
         case rel=>rw [gapT_pos hj0];exact ⟨aN.out.1,U.out.trans ((Keep5.of_below E.out ag).trans aN.out.2),ac.out.keep5 ((Keep5.of_below E.out ag).trans aN.out.2)⟩
       have aR:j=0:=by omega
       subst aR;go_wp2_with fail;go_meet
       case rel=>rw [gapT_zero,List.append_nil];exact ⟨aA.out,U.out,ac.out⟩
      case rest =>
       obtain ⟨aG,R,a8⟩:=hcut;clear c0 c1 c2 c3;obtain ⟨c0,c1,c2,c3⟩:=a8.cells;have aW:Hid (Keep5 base w wc):=R;have b5:Hid (BoxC wc w.heap.size (.int .i64 (kk:Int)) (.slice na nn nc) (.slice ra rn rc) (.slice ka kn kc)):=a8;have bn:base≤wc.heap.size:=Nat.le_trans A R.1.size;obtain ⟨x7,ao⟩:∃ x7,x7=x6++gapT j:=⟨_,rfl⟩;rw [← ao] at aG;have bI:x7.length=x6.length+(gapT j).length:=by rw [ao];simp
       have bx:Hid (x7++textC (c.kids.getD j CN.zero)=x5++textJ 0 (c.kids.take (j+1))):=by unfold Hid;rw [HT.out,ao,aL.out];simp
       have bE:Hid (OwnB base wc u0 x7):=aG;have hR:=bG.out.below R.1 ay;rcases hR.cells with hz | ⟨b,bl,e1,_,_,hc⟩
       · omega
       subst e1;obtain ⟨v0,v1,v2,v3,q0,q1,q2,q3,b8⟩:=hc j hlt;have aY:Hid (RdC lo hi wc d (.agg #[v0,v1,v2,v3]) (c.kids.getD j CN.zero)):=b8;have bB:Hid (wfC (c.kids.getD j CN.zero)=true):=wfL_getD _ _ ba bC.out;clear aG R a8 ao hR hc b8 aA U ac;go_wp2_with fail;refine (H (.agg #[v0,v1,v2,v3]) (c.kids.getD j CN.zero) u0 x7 wc base lo hi aY.out ay bn bB.out bE.out (by omega)).mono ?_;rintro e w8 ⟨v8,rfl,bc,a5⟩;have bD:Hid (OwnB base w8 v8 (x5++textJ 0 (c.kids.take (j+1)))):=by unfold Hid;rw [← bx.out];exact bc
       have aV:Hid (Keep5 base w w8):=aW.out.trans a5;have b4:Hid (BoxC w8 w.heap.size (.int .i64 (kk:Int)) (.slice na nn nc) (.slice ra rn rc) (.slice (some ⟨b,bl,none⟩) kn kc)):=b5.out.keep5 a5;clear bc a5;go_wp2_with fail;go_roundw
       case rel=>exact ⟨j+1,by omega,by go_num,bD.out,aV.out,b4.out⟩
       case measure=>simp [intOf];omega
    have HE:Hid (xs++textC c=x6++[41]):=by unfold Hid;rw [aT.out,aL.out,List.take_of_length_le (by rw [bi.out];omega)]
    have E:Hid (Below wr.heap.size wr (wr.alloc (.cells #[.int .u8 41] 5))):=(Below.refl _ _).alloc (Nat.le_refl _) _;have O:Hid (OwnB base (wr.alloc (.cells #[.int .u8 41] 5)) u0 x6):=aA.out.below E.out (Nat.le_refl _);have N:Hid (base≤(wr.alloc (.cells #[.int .u8 41] 5)).heap.size):=Nat.le_trans ag E.out.size;go_wp2_with (at_builtin;refine wpList_append_own _ rfl (.tmp 57) (.tmp 58) 89 rfl base 5 i0 (.int .u8 0) 1 1 Tryz.underlying89 a4 a3 a2 a1 rfl (by decide) u0 x6.length (x6.map (Value.int .u8)) rfl O.out ⟨wr.heap.size,0,none⟩ 1 1 ([41].map (Value.int .u8)) rfl rfl (new1 _ _ _ rfl) (oneCB _) (by unfold maxLen;omega) (by omega) N.out ?_;intro v9 w9 o q z;have bk:Hid (OwnB base w9 v9 (x6++[41])∧Keep5 base _ w9):=ownB_app O.out N.out o q;clear o q z);go_ret;exact ⟨_,rfl,by rw [HE.out];exact bk.out.1,U.out.trans ((Keep5.of_below E.out ag).trans bk.out.2)⟩
end Go.Proofs.YtellcgmabimieaaGreatDoor
