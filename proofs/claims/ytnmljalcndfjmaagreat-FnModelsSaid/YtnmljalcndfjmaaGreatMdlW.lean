/- The law of models: what it asks holds at every list of bytes. -/
import Derived.Test.YtnmljalcndfjmaaGreatNG31
import Derived.Test.YtnmljalcndfjmaaGreatNG26
import Derived.Test.YtnmljalcndfjmaaGreatMdlI
import Derived.Test.YtnmljalcndfjmaaGreatSatI4
import Derived.Test.YtnmljalcndfjmaaGreatNG16
import Derived.Test.YtnmljalcndfjmaaGreatNG25
import Derived.Test.YtnmljalcndfjmaaGreatAxImpl4
namespace Go.Proofs.YtnmljalcndfjmaaGreat
open Go.RowKit
theorem kbB_allM {xs:List AX} (h:kbB xs=true):xs.all axOk=true:=by
 unfold kbB at h;simp only [Bool.and_eq_true] at h;exact h.2.1
theorem isModel_all {x:WD} {xs:List AX} (hw:worldB x=true) (hk:kbB xs=true):isModelB x xs=xs.all (satisB x):=by
 have ha:=kbB_allM hk;rw [List.all_eq_true] at ha;unfold isModelB modelB;rw [hw,hk,Bool.true_and,Bool.true_and,Bool.eq_iff_iff,List.all_eq_true,List.all_eq_true];unfold satisB;constructor
 · intro h y hy;rw [hw,ha y hy,h y hy];rfl
 intro h y hy;have:=h y hy;rw [hw,ha y hy,Bool.true_and,Bool.true_and] at this;exact this
theorem takeAll_succ {xs:List AX} {t:Nat} {f:AX→Bool} (h:t<xs.length):(xs.take (t+1)).all f=((xs.take t).all f && f (xs[t]'h)):=by
 rw [List.take_succ_eq_append_getElem h,List.all_append];simp
set_option maxRecDepth 100000 in
set_option maxHeartbeats 8000000 in
theorem mdlWalk {a:Option Addr} {n aH:Nat} {zs:List Int} {w:World} (h:Rd 0 w.heap.size w a n aH zs) :
    Calls Tryz.prog 5 #[.slice a n aH] w fun e w'=>e=.returned (.bool true)∧Below w.heap.size w w':=by
 have bz:Hid (Rd 0 w.heap.size w a n aH zs):=h;clear h;go_enter Tryz.func5, Tryz.ntmps5;go_wp2_with fail;refine (drawMdl_any bz.out).mono ?_;rintro e w1 hD;obtain ⟨nx,a1,n1,c1,a2,n2,c2,a3,n3,c3,a4,n4,c4,a5,n5,c5,a6,n6,c6,x,va,m,vc,xs,rfl,hn,hx,bh,bi,ad,hm,b5⟩:=hD;have HN:Hid ((-1≤nx∧nx≤129)∧x.n=nx):=⟨hn,hx⟩;have bE:Hid (Below w.heap.size w w1):=b5;have bv:Hid (RdW 0 w1.heap.size w1 a1 n1 c1 a2 n2 c2 a3 n3 c3 a4 n4 c4 a5 n5 c5 a6 n6 c6 x):=bh.mono (Nat.zero_le _) (Nat.le_refl _);have bC:Hid (RdK 0 w1.heap.size w1 20 va m vc xs):=bi.monoM (Nat.zero_le _) (Nat.le_refl _);have ac:Hid (∀ y∈xs,y.c.bulk≤1048576∧y.d.bulk≤1048576):=fun y hy=>⟨Nat.le_trans (ad y hy).1 (by omega),Nat.le_trans (ad y hy).2.1 (by omega)⟩
 have bN:Hid (m≤9):=hm;clear hn hx bh bi b5 ad hm;go_upto_region 2 with fail;refine Code.wp_name (fun W2 av=>?_);obtain ⟨p,hp⟩:∃ p,p=w1.heap.size:=⟨_,rfl⟩;obtain ⟨q,hq⟩:∃ q,q=w1.heap.size+1:=⟨_,rfl⟩;have E:Below w1.heap.size w1 W2:=by rw [av];exact ((Below.refl _ _).alloc (Nat.le_refl _) _).alloc (by simp) _
 have D:Hid (Below w.heap.size w W2):=bE.out.trans (E.mono bE.out.size);have b7:BoxW 27 W2 p nx (.slice a1 n1 c1) (.slice a2 n2 c2) (.slice a3 n3 c3) (.slice a4 n4 c4) (.slice a5 n5 c5) (.slice a6 n6 c6):=by rw [av,hp];exact (allocOld (by simp)).trans (BoxW.new _ w1 _ _ _ _ _ _ _)
 have b6:W2.heap[q]?=some (.cells #[.slice va m vc] 42 (0,0)):=by
  rw [av,hq];have:=World.alloc_heap_new (w1.alloc (.cells #[.int .i64 nx,.slice a1 n1 c1,.slice a2 n2 c2,.slice a3 n3 c3,.slice a4 n4 c4,.slice a5 n5 c5,.slice a6 n6 c6] 27)) (.cells #[.slice va m vc] 42)
  rwa [World.size_alloc] at this
 have bn:q<W2.heap.size:=(Array.getElem?_eq_some_iff.1 b6).1;have G:w1.heap.size≤W2.heap.size:=E.size;have af:Hid (∀ V,Below W2.heap.size W2 V→BoxW 27 V p nx (.slice a1 n1 c1) (.slice a2 n2 c2) (.slice a3 n3 c3) (.slice a4 n4 c4) (.slice a5 n5 c5) (.slice a6 n6 c6)):=fun V hV=>b7.below hV b7.lt
 have aV:Hid (∀ V,Below W2.heap.size W2 V→V.cell? ⟨q,0,none⟩=some (.slice va m vc)):=fun V hV=>by
  have e:=(hV.block q bn).trans b6;simp [World.cell?,e]
 have ao:Hid (∀ V,Below W2.heap.size W2 V→RdW 0 w1.heap.size V a1 n1 c1 a2 n2 c2 a3 n3 c3 a4 n4 c4 a5 n5 c5 a6 n6 c6 x):=fun V hV=>(bv.out.below E (Nat.le_refl _)).below hV G
 have aW:Hid (∀ V,Below W2.heap.size W2 V→RdK 0 w1.heap.size V 20 va m vc xs):=fun V hV=>(bC.out.below E (Nat.le_refl _)).below hV G
 have bR:Hid (p=w1.heap.size∧q=w1.heap.size+1):=⟨hp,hq⟩;rw [← hq,← hp];clear av hp hq b7 b6 E bv bC bn;have H2:Hid (Below W2.heap.size W2 W2):=Below.refl _ _;obtain ⟨x0,x1,x2,x3,x4,x5,x6⟩:=(af.out W2 H2.out).cells;have y0:=aV.out W2 H2.out;go_wp2_with fail;refine (implIsModel_any (ao.out W2 H2.out) (aW.out W2 H2.out) HN.out.2 G G (Nat.zero_le _) ac.out).mono ?_;rintro e w3 ⟨rfl,bs⟩;obtain ⟨bm,b3⟩:∃ b,b=isModelB x xs:=⟨_,rfl⟩;rw [← b3];have bb:Hid (bm=isModelB x xs):=b3;have H3:Hid (Below W2.heap.size W2 w3):=bs;clear bs b3 x0 x1 x2 x3 x4 x5 x6 y0;obtain ⟨x0,x1,x2,x3,x4,x5,x6⟩:=(af.out w3 H3.out).cells;go_wp2_with fail;refine (specWorldOk_any (ao.out w3 H3.out) HN.out.2 (Nat.le_trans G H3.out.size)).mono ?_;rintro e w4 ⟨rfl,bq⟩;have H4:Hid (Below W2.heap.size W2 w4):=H3.out.trans (bq.mono H3.out.size);obtain ⟨bw,b2⟩:∃ bw,bw=worldB x:=⟨_,rfl⟩;have ba:Hid (bw=worldB x):=b2;rw [← b2];clear bq b2 x0 x1 x2 x3 x4 x5 x6;have y0:=aV.out w4 H4.out;cases bw
 · have b9:Hid ((worldB x && kbB xs)=false):=by unfold Hid;rw [← ba.out];rfl
   have H5:Hid (Below W2.heap.size W2 w4):=H4.out;clear y0;obtain ⟨w5,bG⟩:∃ w5:World,w5=w4:=⟨_,rfl⟩;subst bG
   have aZ:bm=false:=by
    rw [bb.out];unfold isModelB;rw [← Bool.and_assoc,b9.out];rfl
   subst aZ;go_wp2_with fail;refine (worlds_any _).mono ?_;rintro e w6 ⟨rfl,H⟩;have H6:Hid (Below W2.heap.size W2 w6):=H5.out.trans (H.mono H5.out.size);clear H;go_wp2;go_ret;exact ⟨rfl,D.out.trans (H6.out.mono D.out.size)⟩
 go_wp2_with fail;refine (specKbOk_any (aW.out w4 H4.out) (Nat.le_trans G H4.out.size) (Nat.zero_le _)).mono ?_;rintro e w5 ⟨rfl,ap⟩;have H5:Hid (Below W2.heap.size W2 w5):=H4.out.trans (ap.mono H4.out.size);obtain ⟨bk,b4⟩:∃ bk,bk=kbB xs:=⟨_,rfl⟩;have bD:Hid (bk=kbB xs):=b4;rw [← b4];clear ap b4 y0;cases bk
 · have b9:Hid ((worldB x && kbB xs)=false):=by unfold Hid;rw [← bD.out,Bool.and_false]
   have aZ:bm=false:=by
    rw [bb.out];unfold isModelB;rw [← Bool.and_assoc,b9.out];rfl
   subst aZ;go_wp2_with fail;refine (worlds_any _).mono ?_;rintro e w6 ⟨rfl,H⟩;have H6:Hid (Below W2.heap.size W2 w6):=H5.out.trans (H.mono H5.out.size);clear H;go_wp2;go_ret;exact ⟨rfl,D.out.trans (H6.out.mono D.out.size)⟩
 have bB:Hid (worldB x=true∧kbB xs=true):=⟨ba.out.symm,bD.out.symm⟩;have bO:Hid (bm=xs.all (satisB x)):=by unfold Hid;rw [bb.out];exact isModel_all bB.out.1 bB.out.2
 have bA:Hid (xs.length=m):=(aW.out w5 H5.out).len;go_wp2_with fail;go_loopw [6,7] (fun al i wr=>∃ t:Nat,t≤m∧al=.bool ((xs.take t).all (satisB x))∧i=.int .i64 t∧Below W2.heap.size W2 wr) (fun _ i _=>m - (intOf i).toNat)
 case atStart=>exact ⟨0,Nat.zero_le _,rfl,rfl,H5.out⟩
 case round =>
  obtain ⟨t,ht,rfl,rfl,hb⟩:=hrel;have bP:m≤9:=bN.out;obtain ⟨wo,bF⟩:∃ wo:World,wo=wr:=⟨_,rfl⟩;subst bF;have HB:Hid (Below W2.heap.size W2 wo):=hb;clear hb;obtain ⟨al,aq⟩:∃ al,al=(xs.take t).all (satisB x):=⟨_,rfl⟩;rw [← aq];have y0:=aV.out wo HB.out;by_cases htl:t<m
  · have bJ:(t:Int)<(m:Int):=by omega
    have am:t<xs.length:=by have:=bA.out;omega
    obtain ⟨b1,o1,bH,b5,ab⟩:∃ b1 o1,va=some ⟨b1,o1,none⟩∧b1<w1.heap.size∧Ax13 0 w1.heap.size W2 20 b1 (o1+t*13) (xs.getD t AX.zero):=by
     rcases (aW.out W2 (Below.refl _ _)).cells with h0 | ⟨b1,o1,e,_,q2,hc⟩
     · omega
     exact ⟨b1,o1,e,q2,hc t htl⟩
    subst bH;obtain ⟨y,hy⟩:∃ y,y=xs.getD t AX.zero:=⟨_,rfl⟩;rw [← hy] at ab;have aY:xs[t]'am=y:=by rw [hy];simp [List.getD,am]
    have bf:y∈xs:=by rw [← aY];exact List.getElem_mem am
    have a8:Hid (y.c.bulk≤1048576∧y.d.bulk≤1048576):=ac.out y bf;have aa:Hid (al=(xs.take t).all (satisB x)∧xs[t]'am=y):=⟨aq,aY⟩;obtain ⟨c0,aQ,aM,aI,d0,d1,d2,d3,T,O,R,N,I,J,a7,Z,a0,Y,U,X,q0,q1,q2,q3,q4,q5,q6,q7,q8,q9,be,bd,bc,ae⟩:=ab;obtain ⟨kd,an⟩:∃ k,k=y.kind:=⟨_,rfl⟩;rw [← an] at q0;have au:Hid (kd=y.kind):=an;have ar:Hid (∀ V,Below W2.heap.size W2 V→RdA 0 w1.heap.size V 20 c0 aQ aM aI d0 d1 d2 d3 T O R N I J a7 Z a0 Y U X y):=fun V hV=>ae.below hV G
    have F:Hid (∀ W,Below W2.heap.size W2 W→(W.cell? ⟨p,0,none⟩=some (.int .i64 nx)∧W.cell? ⟨p,1,none⟩=some (.slice a1 n1 c1)∧W.cell? ⟨p,2,none⟩=some (.slice a2 n2 c2)∧W.cell? ⟨p,3,none⟩=some (.slice a3 n3 c3)∧W.cell? ⟨p,4,none⟩=some (.slice a4 n4 c4)∧W.cell? ⟨p,5,none⟩=some (.slice a5 n5 c5)∧W.cell? ⟨p,6,none⟩=some (.slice a6 n6 c6))∧W.cell? ⟨q,0,none⟩=some (.slice (some ⟨b1,o1,none⟩) m vc)∧W.cell? ⟨b1,o1+t*13,none⟩=some (.int .i64 kd)∧W.cell? ⟨b1,o1+t*13+1,none⟩=some (c0)∧W.cell? ⟨b1,o1+t*13+2,none⟩=some (aQ)∧W.cell? ⟨b1,o1+t*13+3,none⟩=some (aM)∧W.cell? ⟨b1,o1+t*13+4,none⟩=some (aI)∧W.cell? ⟨b1,o1+t*13+5,none⟩=some (d0)∧W.cell? ⟨b1,o1+t*13+6,none⟩=some (d1)∧W.cell? ⟨b1,o1+t*13+7,none⟩=some (d2)∧W.cell? ⟨b1,o1+t*13+8,none⟩=some (d3)∧W.cell? ⟨b1,o1+t*13+9,none⟩=some (.slice T O R)∧W.cell? ⟨b1,o1+t*13+10,none⟩=some (.slice N I J)∧W.cell? ⟨b1,o1+t*13+11,none⟩=some (.slice a7 Z a0)∧W.cell? ⟨b1,o1+t*13+12,none⟩=some (.slice Y U X)):=fun W hW=>by
     have hc:∀ o,W.cell? ⟨b1,o,none⟩=W2.cell? ⟨b1,o,none⟩:=fun o=>hW.cell (p:=⟨b1,o,none⟩) (show b1<W2.heap.size by omega)
     exact ⟨(af.out W hW).cells,(aV.out W hW),(hc _).trans q0,(hc _).trans q1,(hc _).trans q2,(hc _).trans q3,(hc _).trans q4,(hc _).trans q5,(hc _).trans q6,(hc _).trans q7,(hc _).trans q8,(hc _).trans q9,(hc _).trans be,(hc _).trans bd,(hc _).trans bc⟩
    have HV:Hid (Below W2.heap.size W2 wo.drew):=HB.out.drew;clear aq hy aY bf an ae q0 q1 q2 q3 q4 q5 q6 q7 q8 q9 be bd bc;go_upto_region 9 with fail;cases al
    · skip;refine wp_region_held_drew (S:=(fun W=>(W.cell? ⟨p,0,none⟩=some (.int .i64 nx)∧W.cell? ⟨p,1,none⟩=some (.slice a1 n1 c1)∧W.cell? ⟨p,2,none⟩=some (.slice a2 n2 c2)∧W.cell? ⟨p,3,none⟩=some (.slice a3 n3 c3)∧W.cell? ⟨p,4,none⟩=some (.slice a4 n4 c4)∧W.cell? ⟨p,5,none⟩=some (.slice a5 n5 c5)∧W.cell? ⟨p,6,none⟩=some (.slice a6 n6 c6))∧W.cell? ⟨q,0,none⟩=some (.slice (some ⟨b1,o1,none⟩) m vc)∧W.cell? ⟨b1,o1+t*13,none⟩=some (.int .i64 kd)∧W.cell? ⟨b1,o1+t*13+1,none⟩=some (c0)∧W.cell? ⟨b1,o1+t*13+2,none⟩=some (aQ)∧W.cell? ⟨b1,o1+t*13+3,none⟩=some (aM)∧W.cell? ⟨b1,o1+t*13+4,none⟩=some (aI)∧W.cell? ⟨b1,o1+t*13+5,none⟩=some (d0)∧W.cell? ⟨b1,o1+t*13+6,none⟩=some (d1)∧W.cell? ⟨b1,o1+t*13+7,none⟩=some (d2)∧W.cell? ⟨b1,o1+t*13+8,none⟩=some (d3)∧W.cell? ⟨b1,o1+t*13+9,none⟩=some (.slice T O R)∧W.cell? ⟨b1,o1+t*13+10,none⟩=some (.slice N I J)∧W.cell? ⟨b1,o1+t*13+11,none⟩=some (.slice a7 Z a0)∧W.cell? ⟨b1,o1+t*13+12,none⟩=some (.slice Y U X))) (by kernel_rfl) ?_ (fun hHeld=>?_)
      · (try dsimp only)
        with_reducible exact F.out _ HV.out
      refine takeH (i:=0) (v:=?_) rfl (by kernel_rfl) ?_ (by assumption) ?_;rotate_left
      · intro w hSw;(try dsimp only at hSw);go_simp;(try with_reducible rfl)
      (try simp only [Act.put]);(try simp only [List.setIfInBounds_toArray]);(try simp only [List.set_cons_succ]);(try simp only [List.set_cons_zero]);refine takeH (i:=1) (v:=?_) rfl (by kernel_rfl) ?_ (by assumption) ?_;rotate_left
      · intro w hSw;(try dsimp only at hSw);go_simp;(try with_reducible rfl)
      (try simp only [Act.put]);(try simp only [List.setIfInBounds_toArray]);(try simp only [List.set_cons_succ]);(try simp only [List.set_cons_zero]);refine skipH (i:=2) rfl (skipH (i:=3) rfl (skipH (i:=4) rfl (skipH (i:=5) rfl (skipH (i:=6) rfl (skipH (i:=7) rfl (passH (i:=8) rfl ?_))))));(try simp only [Act.put]);(try simp only [List.setIfInBounds_toArray]);(try simp only [List.set_cons_succ]);(try simp only [List.set_cons_zero]);refine takeH (i:=9) (v:=?_) rfl (by kernel_rfl) ?_ (by assumption) ?_;rotate_left
      · intro w hSw;(try dsimp only at hSw);go_simp;(try with_reducible rfl)
      (try simp only [Act.put]);(try simp only [List.setIfInBounds_toArray]);(try simp only [List.set_cons_succ]);(try simp only [List.set_cons_zero]);refine wpAnyH_ready (rs:=[10]) (by kernel_rfl) (by simp) ?_;refine AllReadyH.cons rfl (fun K hK=>?_) AllReadyH.nil;go_simp;refine hK.out _ _ ?_ (fun hHeld=>?_)
      · (try dsimp only)
        with_reducible exact F.out _ HV.out
      clear hK K;refine wpAnyH_done (by kernel_rfl) ?_ _;go_wp2_with fail;go_roundw
      case rel=>first | exact ⟨t+1,by omega,by rw [takeAll_succ am,aa.out.2,← aa.out.1];rfl,by go_num,HV.out⟩ | ((repeat apply Exists.intro);exact ⟨⟨by omega,by rw [takeAll_succ am,aa.out.2,← aa.out.1];rfl,by go_num,HV.out⟩,rfl⟩)
      case measure=>simp [intOf];omega
    skip;refine wp_region_held_drew (S:=(fun W=>(W.cell? ⟨p,0,none⟩=some (.int .i64 nx)∧W.cell? ⟨p,1,none⟩=some (.slice a1 n1 c1)∧W.cell? ⟨p,2,none⟩=some (.slice a2 n2 c2)∧W.cell? ⟨p,3,none⟩=some (.slice a3 n3 c3)∧W.cell? ⟨p,4,none⟩=some (.slice a4 n4 c4)∧W.cell? ⟨p,5,none⟩=some (.slice a5 n5 c5)∧W.cell? ⟨p,6,none⟩=some (.slice a6 n6 c6))∧W.cell? ⟨q,0,none⟩=some (.slice (some ⟨b1,o1,none⟩) m vc)∧W.cell? ⟨b1,o1+t*13,none⟩=some (.int .i64 kd)∧W.cell? ⟨b1,o1+t*13+1,none⟩=some (c0)∧W.cell? ⟨b1,o1+t*13+2,none⟩=some (aQ)∧W.cell? ⟨b1,o1+t*13+3,none⟩=some (aM)∧W.cell? ⟨b1,o1+t*13+4,none⟩=some (aI)∧W.cell? ⟨b1,o1+t*13+5,none⟩=some (d0)∧W.cell? ⟨b1,o1+t*13+6,none⟩=some (d1)∧W.cell? ⟨b1,o1+t*13+7,none⟩=some (d2)∧W.cell? ⟨b1,o1+t*13+8,none⟩=some (d3)∧W.cell? ⟨b1,o1+t*13+9,none⟩=some (.slice T O R)∧W.cell? ⟨b1,o1+t*13+10,none⟩=some (.slice N I J)∧W.cell? ⟨b1,o1+t*13+11,none⟩=some (.slice a7 Z a0)∧W.cell? ⟨b1,o1+t*13+12,none⟩=some (.slice Y U X))) (by kernel_rfl) ?_ (fun hHeld=>?_)
    · (try dsimp only)
      with_reducible exact F.out _ HV.out
    refine takeH (i:=0) (v:=?_) rfl (by kernel_rfl) ?_ (by assumption) ?_;rotate_left
    · intro w hSw;(try dsimp only at hSw);go_simp;(try with_reducible rfl)
    (try simp only [Act.put]);(try simp only [List.setIfInBounds_toArray]);(try simp only [List.set_cons_succ]);(try simp only [List.set_cons_zero]);refine takeH (i:=1) (v:=?_) rfl (by kernel_rfl) ?_ (by assumption) ?_;rotate_left
    · intro w hSw;(try dsimp only at hSw);go_simp;(try with_reducible rfl)
    (try simp only [Act.put]);(try simp only [List.setIfInBounds_toArray]);(try simp only [List.set_cons_succ]);(try simp only [List.set_cons_zero]);refine takeH (i:=2) (v:=?_) rfl (by kernel_rfl) ?_ (by assumption) ?_;rotate_left
    · intro w hSw;(try dsimp only at hSw);go_simp;(try with_reducible rfl)
    (try simp only [Act.put]);(try simp only [List.setIfInBounds_toArray]);(try simp only [List.set_cons_succ]);(try simp only [List.set_cons_zero]);refine takeH (i:=3) (v:=?_) rfl (by kernel_rfl) ?_ (by assumption) ?_;rotate_left
    · intro w hSw;(try dsimp only at hSw);go_simp;(try with_reducible rfl)
    (try simp only [Act.put]);(try simp only [List.setIfInBounds_toArray]);(try simp only [List.set_cons_succ]);(try simp only [List.set_cons_zero]);refine takeH (i:=4) (v:=?_) rfl (by kernel_rfl) ?_ (by assumption) ?_;rotate_left
    · intro w hSw;(try dsimp only at hSw);go_simp;(try with_reducible rfl)
    (try simp only [Act.put]);(try simp only [List.setIfInBounds_toArray]);(try simp only [List.set_cons_succ]);(try simp only [List.set_cons_zero]);refine takeH (i:=5) (v:=?_) rfl (by kernel_rfl) ?_ (by assumption) ?_;rotate_left
    · intro w hSw;(try dsimp only at hSw);go_simp;(try with_reducible rfl)
    (try simp only [Act.put]);(try simp only [List.setIfInBounds_toArray]);(try simp only [List.set_cons_succ]);(try simp only [List.set_cons_zero]);refine takeH (i:=6) (v:=?_) rfl (by kernel_rfl) ?_ (by assumption) ?_;rotate_left
    · intro w hSw;(try dsimp only at hSw);go_simp;(try with_reducible rfl)
    (try simp only [Act.put]);(try simp only [List.setIfInBounds_toArray]);(try simp only [List.set_cons_succ]);(try simp only [List.set_cons_zero]);refine takeH (i:=7) (v:=?_) rfl (by kernel_rfl) ?_ (by assumption) ?_;rotate_left
    · intro w hSw;(try dsimp only at hSw);go_simp;(try with_reducible rfl)
    (try simp only [Act.put]);(try simp only [List.setIfInBounds_toArray]);(try simp only [List.set_cons_succ]);(try simp only [List.set_cons_zero]);refine wpAnyH_ready (rs:=[8]) (by kernel_rfl) (by simp) ?_;refine AllReadyH.cons rfl (fun K hK=>?_) AllReadyH.nil;go_simp;go_wp2_with (go_at_call 25;refine (implSatisfies_any (ao.out _ HV.out) (ar.out _ HV.out) HN.out.2 (Nat.le_trans G HV.out.size) (Nat.le_trans G HV.out.size) a8.out.1 a8.out.2 kd au.out).mono ?_;rintro r V' ⟨rfl,hb⟩;have bx:Hid (Below W2.heap.size W2 V'):=HV.out.trans (hb.mono HV.out.size);clear hb HV;have HV:=bx;clear bx);refine hK.out _ _ ?_ (fun hHeld=>?_)
    · (try dsimp only)
      with_reducible exact F.out _ HV.out
    clear hK K;refine takeH (i:=9) (v:=?_) rfl (by kernel_rfl) ?_ (by assumption) ?_;rotate_left
    · intro w hSw;(try dsimp only at hSw);go_simp;(try with_reducible rfl)
    (try simp only [Act.put]);(try simp only [List.setIfInBounds_toArray]);(try simp only [List.set_cons_succ]);(try simp only [List.set_cons_zero]);refine wpAnyH_ready (rs:=[10]) (by kernel_rfl) (by simp) ?_;refine AllReadyH.cons rfl (fun K hK=>?_) AllReadyH.nil;go_simp;refine hK.out _ _ ?_ (fun hHeld=>?_)
    · (try dsimp only)
      with_reducible exact F.out _ HV.out
    clear hK K;refine wpAnyH_done (by kernel_rfl) ?_ _;go_wp2_with fail;go_roundw
    case rel=>first | exact ⟨t+1,by omega,by rw [takeAll_succ am,aa.out.2,← aa.out.1];rfl,by go_num,HV.out⟩ | ((repeat apply Exists.intro);exact ⟨⟨by omega,by rw [takeAll_succ am,aa.out.2,← aa.out.1];rfl,by go_num,HV.out⟩,rfl⟩)
    case measure=>simp [intOf];omega
  have bJ:¬ (t:Int)<(m:Int):=by omega
  have bg:t=m:=by omega
  have bK:al=bm:=by rw [bO.out,aq,bg,← bA.out,List.take_length]
  subst bK;have HV:Hid (Below W2.heap.size W2 wo):=HB.out;clear aq bg;go_wp2_with fail;have bj:Rd 0 w.heap.size wo a n aH zs:=bz.out.below (D.out.trans (HV.out.mono D.out.size)) (Nat.le_refl _);go_wp2_with fail;refine (drawAxOk_any (bj.mono (Nat.le_refl _) (D.out.trans (HV.out.mono D.out.size)).size)).mono ?_;rintro e w5 hD;obtain ⟨kd,v,rfl,⟨c0,c1,c2,c3,d0,d1,d2,d3,T,O,R,N,I,J,a7,Z,a0,Y,U,X,y,rfl,an,ae,ad⟩,ap⟩:=hD;have ah:=ae;obtain ⟨rfl,⟨aT,aR,aS,rfl⟩,⟨aP,aN,aO,rfl⟩,⟨aL,aJ,aK,rfl⟩⟩:=ae.c.formS;obtain ⟨rfl,⟨aG,aE,aF,rfl⟩,⟨aD,aB,aC,rfl⟩,⟨aA,ay,az,rfl⟩⟩:=ae.d.formS;obtain ⟨ck,bp⟩:∃ k,k=y.c.kind:=⟨_,rfl⟩;obtain ⟨dk,bo⟩:∃ k,k=y.d.kind:=⟨_,rfl⟩;rw [← bp,← bo] at ah ⊢;have au:Hid (kd=y.kind):=an.symm;have a8:Hid (y.c.bulk≤1048576∧y.d.bulk≤1048576):=⟨Nat.le_trans ad.1 (by omega),Nat.le_trans ad.2.1 (by omega)⟩;have H5:Hid (Below W2.heap.size W2 w5):=HV.out.trans (ap.mono HV.out.size);have bM:Hid (RdA wo.heap.size w5.heap.size w5 20 (.int .i64 ck) (.slice aT aR aS) (.slice aP aN aO) (.slice aL aJ aK) (.int .i64 dk) (.slice aG aE aF) (.slice aD aB aC) (.slice aA ay az) T O R N I J a7 Z a0 Y U X y):=ah;clear ae ah an ad ap bp bo bj;go_upto_region 11 with fail;refine Code.wp_name (fun W6 b8=>?_);obtain ⟨u,hu⟩:∃ u,u=w5.heap.size:=⟨_,rfl⟩;have H:Below w5.heap.size w5 W6:=by rw [b8];exact (Below.refl _ _).alloc (Nat.le_refl _) _
  have aX:BoxA 49 W6 u kd (.int .i64 ck) (.slice aT aR aS) (.slice aP aN aO) (.slice aL aJ aK) (.int .i64 dk) (.slice aG aE aF) (.slice aD aB aC) (.slice aA ay az) (.slice T O R) (.slice N I J) (.slice a7 Z a0) (.slice Y U X):=by rw [b8,hu];exact BoxA.new _ w5 _ _ _ _ _ _ _ _ _ _ _ _ _
  have ax:w5.heap.size≤W6.heap.size:=H.size;have H6:Hid (Below W2.heap.size W2 W6):=H5.out.trans (H.mono H5.out.size);have a9:Hid (∀ V,Below W6.heap.size W6 V→Below W2.heap.size W2 V):=fun V hV=>H6.out.trans (hV.mono H6.out.size)
  have aU:Hid (∀ V,Below W6.heap.size W6 V→BoxA 49 V u kd (.int .i64 ck) (.slice aT aR aS) (.slice aP aN aO) (.slice aL aJ aK) (.int .i64 dk) (.slice aG aE aF) (.slice aD aB aC) (.slice aA ay az) (.slice T O R) (.slice N I J) (.slice a7 Z a0) (.slice Y U X)):=fun V hV=>aX.below hV aX.lt
  have ar:Hid (∀ V,Below W6.heap.size W6 V→RdA wo.heap.size w5.heap.size V 20 (.int .i64 ck) (.slice aT aR aS) (.slice aP aN aO) (.slice aL aJ aK) (.int .i64 dk) (.slice aG aE aF) (.slice aD aB aC) (.slice aA ay az) T O R N I J a7 Z a0 Y U X y):=fun V hV=>(bM.out.below H (Nat.le_refl _)).below hV ax
  rw [← hu];clear b8 hu aX H;have HU:Hid (Below W6.heap.size W6 W6):=Below.refl _ _;have ag:w1.heap.size≤W6.heap.size:=Nat.le_trans G H6.out.size;obtain ⟨z0,z1,z2,z3,z4,z5,z6,z7,z8,z9,ak,aj,ai⟩:=(aU.out _ HU.out).cells;obtain ⟨x0,x1,x2,x3,x4,x5,x6⟩:=(af.out _ (a9.out _ HU.out)).cells;have bQ:(al == al)=true:=by cases al <;> rfl
  have bu:Hid (worldB x=true):=ba.out.symm;cases hy:axOk y
  · have bL:Hid (satisB x y=false):=by unfold Hid satisB;rw [hy,Bool.false_and,Bool.and_false]
    go_wp2_with (first | (go_at_call 27;refine (implAxiomOk_any (ar.out _ HU.out) (Nat.le_trans ax HU.out.size) a8.out.1 a8.out.2 kd au.out).mono ?_;rintro r V' ⟨rfl,hb⟩;have A:Hid (Below W6.heap.size W6 V'):=HU.out.trans (hb.mono HU.out.size);clear hb HU;have HU:=A;clear A;rw [hy];clear z0 z1 z2 z3 z4 z5 z6 z7 z8 z9 ak aj ai x0 x1 x2 x3 x4 x5 x6;obtain ⟨z0,z1,z2,z3,z4,z5,z6,z7,z8,z9,ak,aj,ai⟩:=(aU.out _ HU.out).cells;obtain ⟨x0,x1,x2,x3,x4,x5,x6⟩:=(af.out _ (a9.out _ HU.out)).cells) | (go_at_call 25;refine (implSatisfies_any (ao.out _ (a9.out _ HU.out)) (ar.out _ HU.out) HN.out.2 (Nat.le_trans ag HU.out.size) (Nat.le_trans ax HU.out.size) a8.out.1 a8.out.2 kd au.out).mono ?_;rintro r V' ⟨rfl,hb⟩;have A:Hid (Below W6.heap.size W6 V'):=HU.out.trans (hb.mono HU.out.size);clear hb HU;have HU:=A;clear A;rw [bL.out];clear z0 z1 z2 z3 z4 z5 z6 z7 z8 z9 ak aj ai x0 x1 x2 x3 x4 x5 x6;obtain ⟨z0,z1,z2,z3,z4,z5,z6,z7,z8,z9,ak,aj,ai⟩:=(aU.out _ HU.out).cells;obtain ⟨x0,x1,x2,x3,x4,x5,x6⟩:=(af.out _ (a9.out _ HU.out)).cells) | (go_at_call 28;refine (implWorldOk_any (ao.out _ (a9.out _ HU.out)) HN.out.2 (Nat.le_trans ag HU.out.size)).mono ?_;rintro r V' ⟨rfl,hb⟩;have A:Hid (Below W6.heap.size W6 V'):=HU.out.trans (hb.mono HU.out.size);clear hb HU;have HU:=A;clear A;rw [bu.out]));go_ret;exact ⟨rfl,D.out.trans ((a9.out _ HU.out).mono D.out.size)⟩
  go_wp2_with (first | (go_at_call 27;refine (implAxiomOk_any (ar.out _ HU.out) (Nat.le_trans ax HU.out.size) a8.out.1 a8.out.2 kd au.out).mono ?_;rintro r V' ⟨rfl,hb⟩;have A:Hid (Below W6.heap.size W6 V'):=HU.out.trans (hb.mono HU.out.size);clear hb HU;have HU:=A;clear A;rw [hy];clear z0 z1 z2 z3 z4 z5 z6 z7 z8 z9 ak aj ai x0 x1 x2 x3 x4 x5 x6;obtain ⟨z0,z1,z2,z3,z4,z5,z6,z7,z8,z9,ak,aj,ai⟩:=(aU.out _ HU.out).cells;obtain ⟨x0,x1,x2,x3,x4,x5,x6⟩:=(af.out _ (a9.out _ HU.out)).cells) | (go_at_call 28;refine (implWorldOk_any (ao.out _ (a9.out _ HU.out)) HN.out.2 (Nat.le_trans ag HU.out.size)).mono ?_;rintro r V' ⟨rfl,hb⟩;have A:Hid (Below W6.heap.size W6 V'):=HU.out.trans (hb.mono HU.out.size);clear hb HU;have HU:=A;clear A;rw [bu.out]));go_ret;exact ⟨rfl,D.out.trans ((a9.out _ HU.out).mono D.out.size)⟩
end Go.Proofs.YtnmljalcndfjmaaGreat
