/- What follows of facts, by the specification: contracts. -/
import Derived.Test.YtkjmfaohdhiiaaaNG12
import Derived.Test.YtkjmfaohdhiiaaaResS2
import Derived.Test.YtkjmfaohdhiiaaaNG7
namespace Go.Proofs.Ytkjmfaohdhiiaaa
open Go.RowKit
set_option linter.unusedVariables false
theorem factsO_yes {xs:List PT} {x:PT} {i:Nat} (h:whoN xs xs.length=some i):factsO xs x=(meetP (xs.getD i (0,0)) x).map (fun p=>factC (xs.set i p)):=by unfold factsO;rw [h]
def zipT (xs ys:List PT) (k:Nat):List PT:=(List.range xs.length).map (fun j=>if j<k then joinP (xs.getD j (0,0)) (ys.getD j (0,0)) else xs.getD j (0,0))
theorem zipT_len (xs ys:List PT) (k:Nat):(zipT xs ys k).length=xs.length:=by simp [zipT]
theorem zipT_get (xs ys:List PT) (k:Nat) {i:Nat} (h:i<xs.length):(zipT xs ys k).getD i (0,0)=if i<k then joinP (xs.getD i (0,0)) (ys.getD i (0,0)) else xs.getD i (0,0):=by simp [zipT,List.getD,h]
theorem ext_getD {xs ys:List PT} (h1:xs.length=ys.length) (h:∀ j,j<xs.length→xs.getD j (0,0)=ys.getD j (0,0)):xs=ys:=by
 refine List.ext_getElem h1 (fun j hj b3=>?_);have:=h j hj;simpa [List.getD,hj,b3] using this
theorem zipT_zero (xs ys:List PT):zipT xs ys 0=xs:=ext_getD (zipT_len _ _ _) (fun j hj=>by rw [zipT_len] at hj;rw [zipT_get _ _ _ hj,if_neg (by omega)])
theorem zipT_all (xs ys:List PT):zipT xs ys xs.length=zipJ xs ys:=ext_getD (by rw [zipT_len,zipJ_len]) (fun j hj=>by rw [zipT_len] at hj;rw [zipT_get _ _ _ hj,if_pos hj,zipJ_getD hj])
theorem zipT_at (xs ys:List PT) {k:Nat} (h:k<xs.length):(zipT xs ys k).getD k (0,0)=xs.getD k (0,0):=by rw [zipT_get _ _ _ h,if_neg (by omega)]
theorem zipT_step (xs ys:List PT) {k:Nat} (h:k<xs.length):(zipT xs ys k).set k (joinP (xs.getD k (0,0)) (ys.getD k (0,0)))=zipT xs ys (k+1):=by
 refine ext_getD (by rw [List.length_set,zipT_len,zipT_len]) (fun j hj=>?_);rw [List.length_set,zipT_len] at hj;rw [zipT_get _ _ _ hj];by_cases e:k=j
 · subst e;rw [if_pos (by omega)];simp [List.getD,zipT_len,h]
 have h1:((zipT xs ys k).set k (joinP (xs.getD k (0,0)) (ys.getD k (0,0)))).getD j (0,0)=(zipT xs ys k).getD j (0,0):=by simp only [List.getD];rw [List.getElem?_set_ne e]
 rw [h1,zipT_get _ _ _ hj];by_cases hjk:j<k
 · rw [if_pos hjk,if_pos (by omega)]
 rw [if_neg hjk,if_neg (by omega)]
theorem ownsK_keep {w w':World} {base e size n g ay:Nat} {xs:List Value} (h:w.ownsRow base e size (.slice (some ⟨g,0,none⟩) n ay) n xs) (hk:w'.heap[g]?=w.heap[g]?):w'.ownsRow base e size (.slice (some ⟨g,0,none⟩) n ay) n xs:=by
 refine ⟨h.1,?_⟩;rcases h.2 with q | ⟨g',cap',b8,hv,hg,hh,r⟩
 · exact .inl q
 simp only [Value.slice.injEq,Option.some.injEq,Addr.mk.injEq,and_true,true_and] at hv;obtain ⟨rfl,rfl⟩:=hv;exact .inr ⟨g,ay,b8,rfl,hg,hk.trans hh,r⟩
set_option maxRecDepth 100000 in
set_option maxHeartbeats 8000000 in
theorem l7facts_ff (a b:CL) (ka:a.kind=5) (kb:b.kind=5) {ia ib:Option Addr} {ca cb la ad lb an:Nat} {w:World} (ha:a.ok=true) (hb:b.ok=true) (h1:RP la ad w ia a.inds.length ca a.inds) (h2:RP lb an w ib b.inds.length cb b.inds) (b5:ad≤w.heap.size) (b4:an≤w.heap.size) {o:Option CL} (ho:o=factsF a.inds b.inds) :
    Calls Try.prog 104 #[.agg #[.int .i64 a.kind,.int .i64 a.fn,.int .i64 a.role,.int .i64 a.above,.int .i64 a.xp,.int .i64 a.xn,.int .i64 a.yp,.int .i64 a.yn,.slice ia a.inds.length ca,.int .i64 a.a,.int .i64 a.b],.agg #[.int .i64 b.kind,.int .i64 b.fn,.int .i64 b.role,.int .i64 b.above,.int .i64 b.xp,.int .i64 b.xn,.int .i64 b.yp,.int .i64 b.yn,.slice ib b.inds.length cb,.int .i64 b.a,.int .i64 b.b]] w (QP w o.toList):=by
 have HO:Hid (o=factsF a.inds b.inds):=ho;clear ho;have l1:=((ok_facts ha).2.2.1 ka).1;have pa:=((ok_facts ha).2.2.1 ka).2;have l2:=((ok_facts hb).2.2.1 kb).1;have pb:=((ok_facts hb).2.2.1 kb).2;have HL:Hid (a.inds.length=4∧b.inds.length=4):=⟨l1,l2⟩;have bm:Hid (a=factC a.inds):=ok_fact ha ka;have bj:Hid (∀ j,j<4→partB (a.inds.getD j (0,0)).1 (a.inds.getD j (0,0)).2=true):=pa;have aF:Hid _:=pb;have HK:Hid (b.kind=5):=kb;rw [l1] at h1 ⊢;rw [l2] at h2 ⊢
 obtain ⟨b2,o2,rfl⟩:∃ b2 o2,ib=some ⟨b2,o2,none⟩:=by
  rcases h2.cells with q | ⟨b,off,e,_⟩
  · omega
  exact ⟨b,off,e⟩
 obtain ⟨b1,o1,rfl⟩:∃ b1 o1,ia=some ⟨b1,o1,none⟩:=by
  rcases h1.cells with q | ⟨b,off,e,_⟩
  · omega
  exact ⟨b,off,e⟩
 have HR:Hid (∀ V,Below w.heap.size w V→RP la ad V (some ⟨b1,o1,none⟩) 4 ca a.inds∧RP lb an V (some ⟨b2,o2,none⟩) 4 cb b.inds):=fun V hV=>⟨h1.below hV b5,h2.below hV b4⟩
 clear h1 h2 ha hb l1 l2 pa pb ka kb;obtain ⟨W,hW⟩:∃ W,W=(w.alloc (.cells #[.int .i64 a.kind,.int .i64 a.fn,.int .i64 a.role,.int .i64 a.above,.int .i64 a.xp,.int .i64 a.xn,.int .i64 a.yp,.int .i64 a.yn,.slice (some ⟨b1,o1,none⟩) 4 ca,.int .i64 a.a,.int .i64 a.b] 32)).alloc (.cells #[.int .i64 b.kind,.int .i64 b.fn,.int .i64 b.role,.int .i64 b.above,.int .i64 b.xp,.int .i64 b.xn,.int .i64 b.yp,.int .i64 b.yn,.slice (some ⟨b2,o2,none⟩) 4 cb,.int .i64 b.a,.int .i64 b.b] 32):=⟨_,rfl⟩;have HW:Hid (W=(w.alloc (.cells #[.int .i64 a.kind,.int .i64 a.fn,.int .i64 a.role,.int .i64 a.above,.int .i64 a.xp,.int .i64 a.xn,.int .i64 a.yp,.int .i64 a.yn,.slice (some ⟨b1,o1,none⟩) 4 ca,.int .i64 a.a,.int .i64 a.b] 32)).alloc (.cells #[.int .i64 b.kind,.int .i64 b.fn,.int .i64 b.role,.int .i64 b.above,.int .i64 b.xp,.int .i64 b.xn,.int .i64 b.yp,.int .i64 b.yn,.slice (some ⟨b2,o2,none⟩) 4 cb,.int .i64 b.a,.int .i64 b.b] 32)):=hW;have aM:Below w.heap.size w W:=by rw [hW];exact ((Below.refl _ _).alloc (Nat.le_refl _) _).alloc (by simp) _
 have br:W.heap.size=w.heap.size+2:=by rw [hW];simp
 have aH:BoxK 32 W w.heap.size a.kind a.fn a.role a.above a.xp a.xn a.yp a.yn (.slice (some ⟨b1,o1,none⟩) 4 ca) a.a a.b:=by
  rw [hW];exact (BoxK.new 32 w _ _ _ _ _ _ _ _ _ _ _).below ((Below.refl _ _).alloc (Nat.le_refl _) _) (by simp)
 have aG:BoxK 32 W (w.heap.size+1) b.kind b.fn b.role b.above b.xp b.xn b.yp b.yn (.slice (some ⟨b2,o2,none⟩) 4 cb) b.a b.b:=by
  rw [hW];have:=BoxK.new 32 (w.alloc (.cells #[.int .i64 a.kind,.int .i64 a.fn,.int .i64 a.role,.int .i64 a.above,.int .i64 a.xp,.int .i64 a.xn,.int .i64 a.yp,.int .i64 a.yn,.slice (some ⟨b1,o1,none⟩) 4 ca,.int .i64 a.a,.int .i64 a.b] 32)) b.kind b.fn b.role b.above b.xp b.xn b.yp b.yn (.slice (some ⟨b2,o2,none⟩) 4 cb) b.a b.b;rw [show (w.alloc (.cells #[.int .i64 a.kind,.int .i64 a.fn,.int .i64 a.role,.int .i64 a.above,.int .i64 a.xp,.int .i64 a.xn,.int .i64 a.yp,.int .i64 a.yn,.slice (some ⟨b1,o1,none⟩) 4 ca,.int .i64 a.a,.int .i64 a.b] 32)).heap.size=w.heap.size+1 from by simp] at this;exact this
 have HB:Hid (∀ V,Below W.heap.size W V→BoxK 32 V w.heap.size a.kind a.fn a.role a.above a.xp a.xn a.yp a.yn (.slice (some ⟨b1,o1,none⟩) 4 ca) a.a a.b∧BoxK 32 V (w.heap.size+1) b.kind b.fn b.role b.above b.xp b.xn b.yp b.yn (.slice (some ⟨b2,o2,none⟩) 4 cb) b.a b.b):=fun V hV=>⟨aH.below hV (by omega),aG.below hV (by omega)⟩
 have HF:Hid (∀ V,Below W.heap.size W V→Below w.heap.size w V):=fun V hV=>aM.trans (hV.mono (by omega))
 have H0:Hid (Below W.heap.size W W):=Below.refl _ _;clear hW aM aH aG;obtain ⟨y0,y1,y2,y3,y4,y5,y6,y7,y8,y9,F⟩:=(HB.out _ H0.out).1.cells;obtain ⟨v0,v1,v2,v3,v4,v5,v6,v7,v8,v9,L⟩:=(HB.out _ H0.out).2.cells;go_enter Try.func104, Try.ntmps104;go_upto_region 1 with fail;rw [← HW.out];go_wp2_with fail;refine (l7who_any (HR.out _ (HF.out _ H0.out)).1 (by omega)).mono ?_;rintro e w1 ⟨rfl,aL⟩;have H1:Hid (Below W.heap.size W w1):=aL;clear aL y0 y1 y2 y3 y4 y5 y6 y7 y8 y9 F v0 v1 v2 v3 v4 v5 v6 v7 v8 v9 L;cases hw1:whoN a.inds 4 with
 | none =>
  have J:Hid (o=none):=by rw [Hid,HO.out];exact factsF_no1 (by rw [HL.out.1];exact hw1)
  clear hw1;simp only [whoI];go_wp2_with fail;go_ret;exact ⟨none,0,by rw [J.out];rfl,by rw [J.out];exact RdZ.nil _ _ _,HF.out _ H1.out⟩
 | some i =>
  have aR:Hid (whoN a.inds 4=some i):=hw1;have X:i<4:=(whoN_lt hw1).1;have bv:(i:Int)<4:=by omega
  have bu:¬ ((i:Int)<0):=by omega
  clear hw1;simp only [whoI];obtain ⟨y0,y1,y2,y3,y4,y5,y6,y7,y8,y9,F⟩:=(HB.out _ H1.out).1.cells;obtain ⟨v0,v1,v2,v3,v4,v5,v6,v7,v8,v9,L⟩:=(HB.out _ H1.out).2.cells;rw [HK.out] at v0;obtain ⟨bw,af⟩:∃ bw,bw=w1.heap.size:=⟨_,rfl⟩;obtain ⟨W2,ah⟩:∃ W2,W2=w1.alloc (.cells #[.int .i64 b.xp,.int .i64 b.xn] 29):=⟨_,rfl⟩;have be:Hid (W2=w1.alloc (.cells #[.int .i64 b.xp,.int .i64 b.xn] 29)):=ah;have aK:Below w1.heap.size w1 W2:=by rw [ah];exact (Below.refl _ _).alloc (Nat.le_refl _) _
  have H2:Hid (Below W.heap.size W W2):=H1.out.trans (aK.mono H1.out.size);have aV:Hid (BoxP 29 W2 bw b.xp b.xn):=by rw [Hid,ah,af];exact BoxP.new _ w1 _ _
  have bc:Hid (W.heap.size≤bw):=by rw [Hid,af];exact H1.out.size
  have bp:Hid (bw=w1.heap.size):=af;clear ah aK af;go_upto_region 5 with fail;rw [← be.out,← bp.out];clear y0 y1 y2 y3 y4 y5 y6 y7 y8 y9 F v0 v1 v2 v3 v4 v5 v6 v7 v8 v9 L;obtain ⟨y0,y1,y2,y3,y4,y5,y6,y7,y8,y9,F⟩:=(HB.out _ H2.out).1.cells;obtain ⟨v0,v1,v2,v3,v4,v5,v6,v7,v8,v9,L⟩:=(HB.out _ H2.out).2.cells;rw [HK.out] at v0;go_wp2_with fail;refine (l7who_any (HR.out _ (HF.out _ H2.out)).2 (by have:=(HF.out _ H2.out).size;omega)).mono ?_;rintro e w5 ⟨rfl,ar⟩;have H5:Hid (Below W.heap.size W w5):=H2.out.trans (ar.mono H2.out.size);have ak:Hid (BoxP 29 w5 bw b.xp b.xn):=aV.out.below ar aV.out.lt;clear ar y0 y1 y2 y3 y4 y5 y6 y7 y8 y9 F v0 v1 v2 v3 v4 v5 v6 v7 v8 v9 L;by_cases hq:whoN b.inds 4=some i
  · have bh:Hid (whoN b.inds 4=some i):=hq;rw [hq];clear hq;simp only [whoI];obtain ⟨⟨p1,q1⟩,M⟩:∃ x,x=a.inds.getD i (0,0):=⟨_,rfl⟩;obtain ⟨⟨p2,q2⟩,G⟩:∃ x,x=b.inds.getD i (0,0):=⟨_,rfl⟩;have HX:Hid ((p1,q1)=a.inds.getD i (0,0)∧(p2,q2)=b.inds.getD i (0,0)):=⟨M,G⟩
    have aT:Hid (partB p1 q1=true∧partB p2 q2=true):=by
     have e1:=bj.out i X;have e2:=aF.out i X;rw [← M] at e1;rw [← G] at e2;exact ⟨e1,e2⟩
    obtain ⟨d0,d1⟩:=ak.out.cells;have a2:=ak.out.frz 0;have a1:=ak.out.frz 1;obtain ⟨c0,c1,_⟩:=(HR.out _ (HF.out _ H5.out)).2.at X;rw [← G] at c0 c1;dsimp only at c0 c1;have y8:=(HB.out _ H5.out).2.cells.2.2.2.2.2.2.2.2.1;obtain ⟨w6,H⟩:∃ w6,w6=(w5.setCell ⟨bw,0,none⟩ (.int .i64 p2)).setCell ⟨bw,1,none⟩ (.int .i64 q2):=⟨_,rfl⟩;have U:=bc.out;have H6:Hid (Below W.heap.size W w6):=by rw [Hid,H];exact (H5.out.setCell (p:=⟨bw,0,none⟩) U _).setCell (p:=⟨bw,1,none⟩) U _
    have aU:Hid (BoxP 29 w6 bw p2 q2):=by rw [Hid,H];exact (ak.out.set0 p2).set1 q2
    go_upto_region 9 with fail;rw [← H];clear d0 d1 a2 a1 c0 c1 y8 H U
    have ab:Hid (factsF a.inds b.inds=(meetP (p1,q1) (p2,q2)).map (fun p=>factC ((zipJ a.inds b.inds).set i p))):=by
     rw [Hid,factsF_yes (by rw [HL.out.1];exact aR.out) (by rw [HL.out.2];exact bh.out),← M,← G]
    have H:W.heap.size≤w6.heap.size:=H6.out.size
    have s:Hid (∀ V,Below w6.heap.size w6 V→V.cell? ⟨w.heap.size,8,none⟩=some (.slice (some ⟨b1,o1,none⟩) 4 ca)∧V.cell? ⟨b1,o1+i*2,none⟩=some (.int .i64 p1)∧V.cell? ⟨b1,o1+i*2+1,none⟩=some (.int .i64 q1)∧V.cell? ⟨bw,0,none⟩=some (.int .i64 p2)∧V.cell? ⟨bw,1,none⟩=some (.int .i64 q2)):=by
     intro V hV;have aN:Below W.heap.size W V:=H6.out.trans (hV.mono H);obtain ⟨h1,_⟩:=HR.out V (HF.out V aN);obtain ⟨c0,c1,_⟩:=h1.at X;rw [← HX.out.1] at c0 c1;have hp:=(aU.out.below hV aU.out.lt).cells;exact ⟨(HB.out V aN).1.cells.2.2.2.2.2.2.2.2.1,c0,c1,hp.1,hp.2⟩
    have am:Below w6.heap.size w6 w6.drew:=(Below.refl _ _).drew;have HM:=meetP_eq (p1,q1) (p2,q2);have au:∀ V,Calls Try.prog 101 #[.agg #[.int .i64 p1,.int .i64 q1],.agg #[.int .i64 p2,.int .i64 q2]] V fun e w'=>e=.returned (.tuple #[.agg #[.int .i64 (meetR (p1,q1) (p2,q2)).1.1,.int .i64 (meetR (p1,q1) (p2,q2)).1.2],.bool (meetR (p1,q1) (p2,q2)).2])∧Below V.heap.size V w':=fun V=>l7meet_any aT.out.1 aT.out.2 V
    obtain ⟨⟨⟨m1,m2⟩,ok⟩,hm⟩:∃ m,m=meetR (p1,q1) (p2,q2):=⟨_,rfl⟩;rw [← hm] at HM;simp only [← hm] at au;have aD:Hid (∀ V,Calls Try.prog 101 #[.agg #[.int .i64 p1,.int .i64 q1],.agg #[.int .i64 p2,.int .i64 q2]] V fun e w'=>e=.returned (.tuple #[.agg #[.int .i64 m1,.int .i64 m2],.bool ok])∧Below V.heap.size V w'):=au
    have aW:Hid (o=if ok=true then some (factC ((zipJ a.inds b.inds).set i (m1,m2))) else none):=by
     rw [Hid,HO.out,ab.out,HM];cases ok <;> rfl
    clear hm HM au;refine wp_region_held_drew (S:=(fun V=>V.cell? ⟨w.heap.size,8,none⟩=some (.slice (some ⟨b1,o1,none⟩) 4 ca)∧V.cell? ⟨b1,o1+i*2,none⟩=some (.int .i64 p1)∧V.cell? ⟨b1,o1+i*2+1,none⟩=some (.int .i64 q1)∧V.cell? ⟨bw,0,none⟩=some (.int .i64 p2)∧V.cell? ⟨bw,1,none⟩=some (.int .i64 q2))) (by kernel_rfl) ?_ (fun hHeld=>?_)
    · (try dsimp only)
      with_reducible exact s.out _ am
    refine takeR (i:=0) (v:=?_) rfl (by kernel_rfl) ?_ (by assumption) ?_;rotate_left
    · intro w hSw;(try dsimp only at hSw);go_simp;(try with_reducible rfl)
    (try simp only [List.getElem_toArray]);(try simp only [List.getElem_cons_succ]);(try simp only [List.getElem_cons_zero]);(try simp only [Act.put]);(try simp only [List.setIfInBounds_toArray]);(try simp only [List.set_cons_succ]);(try simp only [List.set_cons_zero]);refine takeR (i:=1) (v:=?_) rfl (by kernel_rfl) ?_ (by assumption) ?_;rotate_left
    · intro w hSw;(try dsimp only at hSw);go_simp;(try with_reducible rfl)
    (try simp only [List.getElem_toArray]);(try simp only [List.getElem_cons_succ]);(try simp only [List.getElem_cons_zero]);(try simp only [Act.put]);(try simp only [List.setIfInBounds_toArray]);(try simp only [List.set_cons_succ]);(try simp only [List.set_cons_zero]);refine takeR (i:=2) (v:=?_) rfl (by kernel_rfl) ?_ (by assumption) ?_;rotate_left
    · intro w hSw;(try dsimp only at hSw);go_simp;(try with_reducible rfl)
    (try simp only [List.getElem_toArray]);(try simp only [List.getElem_cons_succ]);(try simp only [List.getElem_cons_zero]);(try simp only [Act.put]);(try simp only [List.setIfInBounds_toArray]);(try simp only [List.set_cons_succ]);(try simp only [List.set_cons_zero]);refine takeR (i:=3) (v:=?_) rfl (by kernel_rfl) ?_ (by assumption) ?_;rotate_left
    · intro w hSw;(try dsimp only at hSw);go_simp;(try with_reducible rfl)
    (try simp only [List.getElem_toArray]);(try simp only [List.getElem_cons_succ]);(try simp only [List.getElem_cons_zero]);(try simp only [Act.put]);(try simp only [List.setIfInBounds_toArray]);(try simp only [List.set_cons_succ]);(try simp only [List.set_cons_zero]);refine takeR (i:=4) (v:=?_) rfl (by kernel_rfl) ?_ (by assumption) ?_;rotate_left
    · intro w hSw;(try dsimp only at hSw);go_simp;(try with_reducible rfl)
    (try simp only [List.getElem_toArray]);(try simp only [List.getElem_cons_succ]);(try simp only [List.getElem_cons_zero]);(try simp only [Act.put]);(try simp only [List.setIfInBounds_toArray]);(try simp only [List.set_cons_succ]);(try simp only [List.set_cons_zero]);refine takeR (i:=5) (v:=?_) rfl (by kernel_rfl) ?_ (by assumption) ?_;rotate_left
    · intro w hSw;(try dsimp only at hSw);go_simp;(try with_reducible rfl)
    (try simp only [List.getElem_toArray]);(try simp only [List.getElem_cons_succ]);(try simp only [List.getElem_cons_zero]);(try simp only [Act.put]);(try simp only [List.setIfInBounds_toArray]);(try simp only [List.set_cons_succ]);(try simp only [List.set_cons_zero]);refine wpAnyH_ready (rs:=[6,10]) (by kernel_rfl) (by simp) ?_;refine AllReadyH.cons rfl (fun K hK=>?callF) (AllReadyH.cons rfl (fun K hK=>?allocF) AllReadyH.nil)
    case' callF =>
     go_simp;go_wp2_with (go_at_call 101;refine (aD.out _).mono ?_;rintro e w7 ⟨rfl,hb⟩;have al:Hid (Below _ _ w7):=hb;clear hb);have H7:Hid (Below w6.heap.size w6 w7):=am.trans (al.out.mono am.size);refine hK.out _ _ ?_ (fun hHeld=>?_)
     · (try dsimp only)
       with_reducible exact s.out _ H7.out
     clear hK K;(try simp only [List.getElem_toArray]);(try simp only [List.getElem_cons_succ]);(try simp only [List.getElem_cons_zero]);(try simp only [Act.put]);(try simp only [List.setIfInBounds_toArray]);(try simp only [List.set_cons_succ]);(try simp only [List.set_cons_zero]);refine takeR (i:=7) (v:=?_) rfl (by kernel_rfl) ?_ (by assumption) ?_;rotate_left
     · intro w hSw;(try dsimp only at hSw);go_simp;(try with_reducible rfl)
     (try simp only [List.getElem_toArray]);(try simp only [List.getElem_cons_succ]);(try simp only [List.getElem_cons_zero]);(try simp only [Act.put]);(try simp only [List.setIfInBounds_toArray]);(try simp only [List.set_cons_succ]);(try simp only [List.set_cons_zero]);refine takeR (i:=8) (v:=?_) rfl (by kernel_rfl) ?_ (by assumption) ?_;rotate_left
     · intro w hSw;(try dsimp only at hSw);go_simp;(try with_reducible rfl)
     (try simp only [List.getElem_toArray]);(try simp only [List.getElem_cons_succ]);(try simp only [List.getElem_cons_zero]);(try simp only [Act.put]);(try simp only [List.setIfInBounds_toArray]);(try simp only [List.set_cons_succ]);(try simp only [List.set_cons_zero]);refine takeR (i:=9) (v:=?_) rfl (by kernel_rfl) ?_ (by assumption) ?_;rotate_left
     · intro w hSw;(try dsimp only at hSw);go_simp;(try with_reducible rfl)
     (try simp only [List.getElem_toArray]);(try simp only [List.getElem_cons_succ]);(try simp only [List.getElem_cons_zero]);(try simp only [Act.put]);(try simp only [List.setIfInBounds_toArray]);(try simp only [List.set_cons_succ]);(try simp only [List.set_cons_zero]);obtain ⟨bx,z⟩:∃ bx,bx=w7.heap.size:=⟨_,rfl⟩;obtain ⟨Wb,N⟩:∃ Wb,Wb=w7.alloc (.cells #[.int .i64 0,.int .i64 0] 29):=⟨_,rfl⟩;have I:Hid (Below w6.heap.size w6 Wb):=by rw [Hid,N];exact H7.out.alloc H7.out.size _
     have t:Hid (BoxP 29 Wb bx 0 0):=by rw [Hid,N,z];exact BoxP.new _ w7 _ _
     have Y:w6.heap.size≤bx:=by rw [z];exact H7.out.size
     refine wpAnyH_ready (rs:=[10]) (by kernel_rfl) (by simp) ?_;refine AllReadyH.cons rfl (fun K hK=>?_) AllReadyH.nil;go_simp;rw [← N,← z];refine hK.out _ _ ?_ (fun hHeld=>?_)
     · (try dsimp only)
       with_reducible exact s.out _ I.out
     clear hK K N z;(try simp only [List.getElem_toArray]);(try simp only [List.getElem_cons_succ]);(try simp only [List.getElem_cons_zero]);(try simp only [Act.put]);(try simp only [List.setIfInBounds_toArray]);(try simp only [List.set_cons_succ]);(try simp only [List.set_cons_zero]);obtain ⟨d0,d1⟩:=t.out.cells;have a2:=t.out.frz 0;have a1:=t.out.frz 1;obtain ⟨W8,D⟩:∃ W8,W8=(Wb.setCell ⟨bx,0,none⟩ (.int .i64 m1)).setCell ⟨bx,1,none⟩ (.int .i64 m2):=⟨_,rfl⟩;have H8:Hid (Below w6.heap.size w6 W8):=by rw [Hid,D];exact (I.out.setCell (p:=⟨bx,0,none⟩) Y _).setCell (p:=⟨bx,1,none⟩) Y _
     have aB:Hid (BoxP 29 W8 bx m1 m2):=by rw [Hid,D];exact (t.out.set0 m1).set1 m2
     refine wpAnyH_ready (rs:=[11]) (by kernel_rfl) (by simp) ?_;refine AllReadyH.cons rfl (fun K hK=>?_) AllReadyH.nil;go_simp;rw [← D];refine hK.out _ _ ?_ (fun hHeld=>?_)
     · (try dsimp only)
       with_reducible exact s.out _ H8.out
     clear hK K D d0 d1 a2 a1 t I;(try simp only [List.getElem_toArray]);(try simp only [List.getElem_cons_succ]);(try simp only [List.getElem_cons_zero]);(try simp only [Act.put]);(try simp only [List.setIfInBounds_toArray]);(try simp only [List.set_cons_succ]);(try simp only [List.set_cons_zero]);refine takeR (i:=12) (v:=?_) rfl (by kernel_rfl) ?_ (by assumption) ?_;rotate_left
     · intro w hSw;(try dsimp only at hSw);go_simp;(try with_reducible rfl)
     (try simp only [List.getElem_toArray]);(try simp only [List.getElem_cons_succ]);(try simp only [List.getElem_cons_zero]);(try simp only [Act.put]);(try simp only [List.setIfInBounds_toArray]);(try simp only [List.set_cons_succ]);(try simp only [List.set_cons_zero]);refine wpAnyH_done (by kernel_rfl) ?_ _
    case' allocF =>
     go_simp;obtain ⟨bx,z⟩:∃ bx,bx=w6.heap.size:=⟨_,rfl⟩;obtain ⟨Wq,a0⟩:∃ Wq,Wq=(w6.alloc (.cells #[.int .i64 0,.int .i64 0] 29)).drew:=⟨_,rfl⟩;have az:Hid (Below w6.heap.size w6 Wq):=by rw [Hid,a0];exact ((Below.refl _ _).alloc (Nat.le_refl _) _).drew
     have bi:Hid (BoxP 29 Wq bx 0 0):=by rw [Hid,a0,z];exact BoxP.new _ w6 _ _
     have Y:w6.heap.size≤bx:=by rw [z];exact Nat.le_refl _
     have b7:bx<Wq.heap.size:=by rw [a0,z];show w6.heap.size<(w6.alloc (.cells #[.int .i64 0,.int .i64 0] 29)).heap.size;simp
     try rw [← z]
     rw [← a0];refine hK.out _ _ ?_ (fun hHeld=>?_)
     · (try dsimp only)
       with_reducible exact s.out _ az.out
     clear hK K a0 z;(try simp only [List.getElem_toArray]);(try simp only [List.getElem_cons_succ]);(try simp only [List.getElem_cons_zero]);(try simp only [Act.put]);(try simp only [List.setIfInBounds_toArray]);(try simp only [List.set_cons_succ]);(try simp only [List.set_cons_zero]);refine wpAnyH_ready (rs:=[6]) (by kernel_rfl) (by simp) ?_;refine AllReadyH.cons rfl (fun K hK=>?_) AllReadyH.nil;go_simp;go_wp2_with (go_at_call 101;refine (aD.out _).mono ?_;rintro e w7 ⟨rfl,hb⟩;have al:Hid (Below _ _ w7):=hb;clear hb);have I:Hid (Below w6.heap.size w6 w7):=az.out.trans (al.out.mono az.out.size);have t:Hid (BoxP 29 w7 bx 0 0):=bi.out.below al.out b7;refine hK.out _ _ ?_ (fun hHeld=>?_)
     · (try dsimp only)
       with_reducible exact s.out _ I.out
     clear hK K;(try simp only [List.getElem_toArray]);(try simp only [List.getElem_cons_succ]);(try simp only [List.getElem_cons_zero]);(try simp only [Act.put]);(try simp only [List.setIfInBounds_toArray]);(try simp only [List.set_cons_succ]);(try simp only [List.set_cons_zero]);refine takeR (i:=7) (v:=?_) rfl (by kernel_rfl) ?_ (by assumption) ?_;rotate_left
     · intro w hSw;(try dsimp only at hSw);go_simp;(try with_reducible rfl)
     (try simp only [List.getElem_toArray]);(try simp only [List.getElem_cons_succ]);(try simp only [List.getElem_cons_zero]);(try simp only [Act.put]);(try simp only [List.setIfInBounds_toArray]);(try simp only [List.set_cons_succ]);(try simp only [List.set_cons_zero]);refine takeR (i:=8) (v:=?_) rfl (by kernel_rfl) ?_ (by assumption) ?_;rotate_left
     · intro w hSw;(try dsimp only at hSw);go_simp;(try with_reducible rfl)
     (try simp only [List.getElem_toArray]);(try simp only [List.getElem_cons_succ]);(try simp only [List.getElem_cons_zero]);(try simp only [Act.put]);(try simp only [List.setIfInBounds_toArray]);(try simp only [List.set_cons_succ]);(try simp only [List.set_cons_zero]);refine takeR (i:=9) (v:=?_) rfl (by kernel_rfl) ?_ (by assumption) ?_;rotate_left
     · intro w hSw;(try dsimp only at hSw);go_simp;(try with_reducible rfl)
     (try simp only [List.getElem_toArray]);(try simp only [List.getElem_cons_succ]);(try simp only [List.getElem_cons_zero]);(try simp only [Act.put]);(try simp only [List.setIfInBounds_toArray]);(try simp only [List.set_cons_succ]);(try simp only [List.set_cons_zero]);obtain ⟨Wb,N⟩:∃ Wb,Wb=w7:=⟨_,rfl⟩;rw [← N] at I t hHeld ⊢;clear N;obtain ⟨d0,d1⟩:=t.out.cells;have a2:=t.out.frz 0;have a1:=t.out.frz 1;obtain ⟨W8,D⟩:∃ W8,W8=(Wb.setCell ⟨bx,0,none⟩ (.int .i64 m1)).setCell ⟨bx,1,none⟩ (.int .i64 m2):=⟨_,rfl⟩;have H8:Hid (Below w6.heap.size w6 W8):=by rw [Hid,D];exact (I.out.setCell (p:=⟨bx,0,none⟩) Y _).setCell (p:=⟨bx,1,none⟩) Y _
     have aB:Hid (BoxP 29 W8 bx m1 m2):=by rw [Hid,D];exact (t.out.set0 m1).set1 m2
     refine wpAnyH_ready (rs:=[11]) (by kernel_rfl) (by simp) ?_;refine AllReadyH.cons rfl (fun K hK=>?_) AllReadyH.nil;go_simp;rw [← D];refine hK.out _ _ ?_ (fun hHeld=>?_)
     · (try dsimp only)
       with_reducible exact s.out _ H8.out
     clear hK K D d0 d1 a2 a1 t I;(try simp only [List.getElem_toArray]);(try simp only [List.getElem_cons_succ]);(try simp only [List.getElem_cons_zero]);(try simp only [Act.put]);(try simp only [List.setIfInBounds_toArray]);(try simp only [List.set_cons_succ]);(try simp only [List.set_cons_zero]);refine takeR (i:=12) (v:=?_) rfl (by kernel_rfl) ?_ (by assumption) ?_;rotate_left
     · intro w hSw;(try dsimp only at hSw);go_simp;(try with_reducible rfl)
     (try simp only [List.getElem_toArray]);(try simp only [List.getElem_cons_succ]);(try simp only [List.getElem_cons_zero]);(try simp only [Act.put]);(try simp only [List.setIfInBounds_toArray]);(try simp only [List.set_cons_succ]);(try simp only [List.set_cons_zero]);refine wpAnyH_done (by kernel_rfl) ?_ _
    all_goals
     clear hHeld s am aD;have HU:Hid (∀ V,Below W8.heap.size W8 V→Below W.heap.size W V):=fun V hV=>(H6.out.trans (H8.out.mono H)).trans (hV.mono (by have:=H8.out.size;omega))
     have aO:Below W.heap.size W W8:=H6.out.trans (H8.out.mono H);have a8:Hid (Below W.heap.size W W8):=aO;have aE:bx<W8.heap.size:=aB.out.lt;clear aO;cases ok
     · have J:Hid (o=none):=aW.out;go_wp2_with fail;go_ret;exact ⟨none,0,by rw [J.out];rfl,by rw [J.out];exact RdZ.nil _ _ _,HF.out _ a8.out⟩
     have aa:Hid (o=some (factC ((zipJ a.inds b.inds).set i (m1,m2)))):=aW.out;obtain ⟨y0,y1,y2,y3,y4,y5,y6,y7,y8,y9,F⟩:=(HB.out _ a8.out).1.cells;obtain ⟨v0,v1,v2,v3,v4,v5,v6,v7,v8,v9,L⟩:=(HB.out _ a8.out).2.cells;go_wp2_with fail;have R:=l6own_any a (ic:=some ⟨b1,o1,none⟩) (cc:=ca) (lo:=la) (hi:=ad) (w:=W8) (by rw [HL.out.1];exact (HR.out _ (HF.out _ a8.out)).1) (by have:=(HF.out _ a8.out).size;omega) (by rw [HL.out.1];omega);rw [HL.out.1] at R;refine R.mono ?_;clear R;rintro e w9 ⟨g,vc,rfl,ac,aq⟩;rw [HL.out.1] at ac ⊢;have ao:=(World.ownsRow.lt ac g rfl);obtain ⟨bo,A⟩:∃ bo,bo=w9.heap.size:=⟨_,rfl⟩;obtain ⟨W9,ag⟩:∃ W9,W9=w9.alloc (.cells #[.int .i64 a.kind,.int .i64 a.fn,.int .i64 a.role,.int .i64 a.above,.int .i64 a.xp,.int .i64 a.xn,.int .i64 a.yp,.int .i64 a.yn,.slice (some ⟨g,0,none⟩) 4 vc,.int .i64 a.a,.int .i64 a.b] 32):=⟨_,rfl⟩;have bd:Hid (W9=w9.alloc (.cells #[.int .i64 a.kind,.int .i64 a.fn,.int .i64 a.role,.int .i64 a.above,.int .i64 a.xp,.int .i64 a.xn,.int .i64 a.yp,.int .i64 a.yn,.slice (some ⟨g,0,none⟩) 4 vc,.int .i64 a.a,.int .i64 a.b] 32)):=ag;have T:Below w9.heap.size w9 W9:=by rw [ag];exact (Below.refl _ _).alloc (Nat.le_refl _) _
     have bq:Hid (Below W8.heap.size W8 W9):=aq.trans (T.mono aq.size)
     have bk:Hid (W9.ownsRow W8.heap.size 29 2 (.slice (some ⟨g,0,none⟩) 4 vc) 4 (flatP a.inds)):=by
      have:=OwnP.below ac T;rw [OwnP,HL.out.1] at this;exact this
     have ba:Hid (BoxK 32 W9 bo a.kind a.fn a.role a.above a.xp a.xn a.yp a.yn (.slice (some ⟨g,0,none⟩) 4 vc) a.a a.b):=by rw [Hid,ag,A];exact BoxK.new _ w9 _ _ _ _ _ _ _ _ _ _ _
     have ae:W8.heap.size≤g:=ao.1;have bz:g<bo:=by rw [A];exact ao.2
     have aY:Hid (bo=w9.heap.size):=A;clear ac aq T ao A ag y0 y1 y2 y3 y4 y5 y6 y7 y8 y9 F v0 v1 v2 v3 v4 v5 v6 v7 v8 v9 L;go_upto_region 14 with fail;rw [← bd.out,← aY.out];clear aY;go_loopw [10] (fun cq wr=>∃ k:Nat,k≤4∧cq=.int .i64 k∧wr.ownsRow W8.heap.size 29 2 (.slice (some ⟨g,0,none⟩) 4 vc) 4 (flatP (zipT a.inds b.inds k))∧Below W8.heap.size W8 wr∧wr.heap[bo]?=some (.cells #[.int .i64 a.kind,.int .i64 a.fn,.int .i64 a.role,.int .i64 a.above,.int .i64 a.xp,.int .i64 a.xn,.int .i64 a.yp,.int .i64 a.yn,.slice (some ⟨g,0,none⟩) 4 vc,.int .i64 a.a,.int .i64 a.b] 32 (0,0))) (fun cq _=>4 - (intOf cq).toNat)
     case atStart=>exact ⟨0,Nat.zero_le _,rfl,by rw [zipT_zero];exact bk.out,bq.out,ba.out⟩
     case round =>
      obtain ⟨k,hk,rfl,O,a9,A⟩:=hrel;have aj:Hid (Below W8.heap.size W8 wr):=a9;have E:Hid (wr.ownsRow W8.heap.size 29 2 (.slice (some ⟨g,0,none⟩) 4 vc) 4 (flatP (zipT a.inds b.inds k))):=O;have a3:Hid (BoxK 32 wr bo a.kind a.fn a.role a.above a.xp a.xn a.yp a.yn (.slice (some ⟨g,0,none⟩) 4 vc) a.a a.b):=A;have b6:g<wr.heap.size:=(World.ownsRow.lt O g rfl).2;clear a9 O A;have aX:=(HB.out _ (HU.out _ aj.out)).2.cells;have bn:Hid (wr.cell? ⟨w.heap.size+1,8,none⟩=some (.slice (some ⟨b2,o2,none⟩) 4 cb)):=aX.2.2.2.2.2.2.2.2.1;clear aX;have x8:=a3.out.cells.2.2.2.2.2.2.2.2.1;have y8:=bn.out;by_cases hlt:k<4
      · have bt:(k:Int)<4:=by omega
        obtain ⟨⟨u1,v1⟩,M⟩:∃ x,x=a.inds.getD k (0,0):=⟨_,rfl⟩;obtain ⟨⟨u2,v2⟩,G⟩:∃ x,x=b.inds.getD k (0,0):=⟨_,rfl⟩
        have HZ:Hid ((zipT a.inds b.inds k).set k (bits .or .i64 u1 u2,bits .or .i64 v1 v2)=zipT a.inds b.inds (k+1)):=by
         rw [Hid,← zipT_step a.inds b.inds (by rw [HL.out.1];exact hlt),← M,← G];rfl
        have bl:Hid ((zipT a.inds b.inds k).getD k (0,0)=(u1,v1)):=by rw [Hid,zipT_at a.inds b.inds (by rw [HL.out.1];exact hlt),← M]
        have b9:Hid ((zipT a.inds b.inds k).length=4):=by rw [Hid,zipT_len,HL.out.1]
        have s:Hid (∀ V,Below W8.heap.size W8 V→V.heap[bo]?=some (.cells #[.int .i64 a.kind,.int .i64 a.fn,.int .i64 a.role,.int .i64 a.above,.int .i64 a.xp,.int .i64 a.xn,.int .i64 a.yp,.int .i64 a.yn,.slice (some ⟨g,0,none⟩) 4 vc,.int .i64 a.a,.int .i64 a.b] 32 (0,0))→V.cell? ⟨bo,8,none⟩=some (.slice (some ⟨g,0,none⟩) 4 vc)∧V.cell? ⟨w.heap.size+1,8,none⟩=some (.slice (some ⟨b2,o2,none⟩) 4 cb)∧V.cell? ⟨b2,o2+k*2,none⟩=some (.int .i64 u2)∧V.cell? ⟨b2,o2+k*2+1,none⟩=some (.int .i64 v2)):=by
         intro V hV A;obtain ⟨h1,h2⟩:=HR.out V (HF.out V (HU.out V hV));obtain ⟨d0,d1,_⟩:=h2.at hlt;rw [← G] at d0 d1;exact ⟨(BoxK.cells (show BoxK 32 V bo a.kind a.fn a.role a.above a.xp a.xn a.yp a.yn (.slice (some ⟨g,0,none⟩) 4 vc) a.a a.b from A)).2.2.2.2.2.2.2.2.1,(HB.out V (HU.out V hV)).2.cells.2.2.2.2.2.2.2.2.1,d0,d1⟩
        clear M G;go_upto_region 16 with fail;clear x8 y8;have a5:Below W8.heap.size W8 wr.drew:=aj.out.drew;have aQ:Hid (wr.drew.heap[bo]?=some (.cells #[.int .i64 a.kind,.int .i64 a.fn,.int .i64 a.role,.int .i64 a.above,.int .i64 a.xp,.int .i64 a.xn,.int .i64 a.yp,.int .i64 a.yn,.slice (some ⟨g,0,none⟩) 4 vc,.int .i64 a.a,.int .i64 a.b] 32 (0,0))):=a3.out;refine wp_region_held_drew (S:=(fun V=>V.cell? ⟨bo,8,none⟩=some (.slice (some ⟨g,0,none⟩) 4 vc)∧V.cell? ⟨w.heap.size+1,8,none⟩=some (.slice (some ⟨b2,o2,none⟩) 4 cb)∧V.cell? ⟨b2,o2+k*2,none⟩=some (.int .i64 u2)∧V.cell? ⟨b2,o2+k*2+1,none⟩=some (.int .i64 v2))) (by kernel_rfl) ?_ (fun hHeld=>?_)
        · (try dsimp only)
          with_reducible exact s.out _ a5 aQ.out
        refine takeR (i:=0) (v:=?_) rfl (by kernel_rfl) ?_ (by assumption) ?_;rotate_left
        · intro w hSw;(try dsimp only at hSw);go_simp;(try with_reducible rfl)
        (try simp only [List.getElem_toArray]);(try simp only [List.getElem_cons_succ]);(try simp only [List.getElem_cons_zero]);(try simp only [Act.put]);(try simp only [List.setIfInBounds_toArray]);(try simp only [List.set_cons_succ]);(try simp only [List.set_cons_zero]);refine takeR (i:=1) (v:=?_) rfl (by kernel_rfl) ?_ (by assumption) ?_;rotate_left
        · intro w hSw;(try dsimp only at hSw);go_simp;(try with_reducible rfl)
        (try simp only [List.getElem_toArray]);(try simp only [List.getElem_cons_succ]);(try simp only [List.getElem_cons_zero]);(try simp only [Act.put]);(try simp only [List.setIfInBounds_toArray]);(try simp only [List.set_cons_succ]);(try simp only [List.set_cons_zero]);refine takeR (i:=2) (v:=?_) rfl (by kernel_rfl) ?_ (by assumption) ?_;rotate_left
        · intro w hSw;(try dsimp only at hSw);go_simp;(try with_reducible rfl)
        (try simp only [List.getElem_toArray]);(try simp only [List.getElem_cons_succ]);(try simp only [List.getElem_cons_zero]);(try simp only [Act.put]);(try simp only [List.setIfInBounds_toArray]);(try simp only [List.set_cons_succ]);(try simp only [List.set_cons_zero]);refine takeR (i:=3) (v:=?_) rfl (by kernel_rfl) ?_ (by assumption) ?_;rotate_left
        · intro w hSw;(try dsimp only at hSw);go_simp;(try with_reducible rfl)
        (try simp only [List.getElem_toArray]);(try simp only [List.getElem_cons_succ]);(try simp only [List.getElem_cons_zero]);(try simp only [Act.put]);(try simp only [List.setIfInBounds_toArray]);(try simp only [List.set_cons_succ]);(try simp only [List.set_cons_zero]);refine takeR (i:=4) (v:=?_) rfl (by kernel_rfl) ?_ (by assumption) ?_;rotate_left
        · intro w hSw;(try dsimp only at hSw);go_simp;(try with_reducible rfl)
        (try simp only [List.getElem_toArray]);(try simp only [List.getElem_cons_succ]);(try simp only [List.getElem_cons_zero]);(try simp only [Act.put]);(try simp only [List.setIfInBounds_toArray]);(try simp only [List.set_cons_succ]);(try simp only [List.set_cons_zero]);refine takeR (i:=5) (v:=?_) rfl (by kernel_rfl) ?_ (by assumption) ?_;rotate_left
        · intro w hSw;(try dsimp only at hSw);go_simp;(try with_reducible rfl)
        (try simp only [List.getElem_toArray]);(try simp only [List.getElem_cons_succ]);(try simp only [List.getElem_cons_zero]);(try simp only [Act.put]);(try simp only [List.setIfInBounds_toArray]);(try simp only [List.set_cons_succ]);(try simp only [List.set_cons_zero]);refine takeR (i:=6) (v:=?_) rfl (by kernel_rfl) ?_ (by assumption) ?_;rotate_left
        · intro w hSw;(try dsimp only at hSw);go_simp;(try with_reducible rfl)
        (try simp only [List.getElem_toArray]);(try simp only [List.getElem_cons_succ]);(try simp only [List.getElem_cons_zero]);(try simp only [Act.put]);(try simp only [List.setIfInBounds_toArray]);(try simp only [List.set_cons_succ]);(try simp only [List.set_cons_zero]);refine takeR (i:=8) (v:=?_) rfl (by kernel_rfl) ?_ (by assumption) ?_;rotate_left
        · intro w hSw;(try dsimp only at hSw);go_simp;(try with_reducible rfl)
        (try simp only [List.getElem_toArray]);(try simp only [List.getElem_cons_succ]);(try simp only [List.getElem_cons_zero]);(try simp only [Act.put]);(try simp only [List.setIfInBounds_toArray]);(try simp only [List.set_cons_succ]);(try simp only [List.set_cons_zero]);refine takeR (i:=9) (v:=?_) rfl (by kernel_rfl) ?_ (by assumption) ?_;rotate_left
        · intro w hSw;(try dsimp only at hSw);go_simp;(try with_reducible rfl)
        (try simp only [List.getElem_toArray]);(try simp only [List.getElem_cons_succ]);(try simp only [List.getElem_cons_zero]);(try simp only [Act.put]);(try simp only [List.setIfInBounds_toArray]);(try simp only [List.set_cons_succ]);(try simp only [List.set_cons_zero]);refine takeR (i:=10) (v:=?_) rfl (by kernel_rfl) ?_ (by assumption) ?_;rotate_left
        · intro w hSw;(try dsimp only at hSw);go_simp;(try with_reducible rfl)
        (try simp only [List.getElem_toArray]);(try simp only [List.getElem_cons_succ]);(try simp only [List.getElem_cons_zero]);(try simp only [Act.put]);(try simp only [List.setIfInBounds_toArray]);(try simp only [List.set_cons_succ]);(try simp only [List.set_cons_zero]);refine takeR (i:=11) (v:=?_) rfl (by kernel_rfl) ?_ (by assumption) ?_;rotate_left
        · intro w hSw;(try dsimp only at hSw);go_simp;(try with_reducible rfl)
        (try simp only [List.getElem_toArray]);(try simp only [List.getElem_cons_succ]);(try simp only [List.getElem_cons_zero]);(try simp only [Act.put]);(try simp only [List.setIfInBounds_toArray]);(try simp only [List.set_cons_succ]);(try simp only [List.set_cons_zero]);refine takeR (i:=12) (v:=?_) rfl (by kernel_rfl) ?_ (by assumption) ?_;rotate_left
        · intro w hSw;(try dsimp only at hSw);go_simp;(try with_reducible rfl)
        (try simp only [List.getElem_toArray]);(try simp only [List.getElem_cons_succ]);(try simp only [List.getElem_cons_zero]);(try simp only [Act.put]);(try simp only [List.setIfInBounds_toArray]);(try simp only [List.set_cons_succ]);(try simp only [List.set_cons_zero]);obtain ⟨f0,f1⟩:=flatP_get (zipT a.inds b.inds k) k (by rw [b9.out];exact hlt);rw [bl.out] at f0 f1;have e0:wr.drew.cell? ⟨g,k*2,none⟩=some (.int .i64 u1):=(E.out.cellAt (k*2) (by omega)).trans f0;have e1:wr.drew.cell? ⟨g,k*2+1,none⟩=some (.int .i64 v1):=(E.out.cellAt (k*2+1) (by omega)).trans f1;refine wpAnyH_ready (rs:=[7]) (by kernel_rfl) (by simp) ?_;refine AllReadyH.cons rfl (fun K hK=>?_) AllReadyH.nil;go_simp;refine hK.out _ _ ?_ (fun hHeld=>?_)
        · (try dsimp only)
          with_reducible exact s.out _ a5 aQ.out
        clear hK K e0 e1;(try simp only [List.getElem_toArray]);(try simp only [List.getElem_cons_succ]);(try simp only [List.getElem_cons_zero]);(try simp only [Act.put]);(try simp only [List.setIfInBounds_toArray]);(try simp only [List.set_cons_succ]);(try simp only [List.set_cons_zero]);refine wpAnyH_ready (rs:=[13]) (by kernel_rfl) (by simp) ?_;refine AllReadyH.cons rfl (fun K hK=>?_) AllReadyH.nil;go_simp;go_wp2_with (go_at_call 103;refine (l7join_any u1 v1 u2 v2 _).mono ?_;rintro e ws ⟨rfl,hb⟩;have aC:Hid (Below wr.drew.heap.size wr.drew ws):=hb;clear hb);have aS:Hid (Below W8.heap.size W8 ws):=a5.trans (aC.out.mono a5.size);have aP:Hid (ws.heap[bo]?=some (.cells #[.int .i64 a.kind,.int .i64 a.fn,.int .i64 a.role,.int .i64 a.above,.int .i64 a.xp,.int .i64 a.xn,.int .i64 a.yp,.int .i64 a.yn,.slice (some ⟨g,0,none⟩) 4 vc,.int .i64 a.a,.int .i64 a.b] 32 (0,0))):=(aC.out.block bo (Array.getElem?_eq_some_iff.1 a3.out).1).trans a3.out;refine hK.out _ _ ?_ (fun hHeld=>?_)
        · (try dsimp only)
          with_reducible exact s.out _ aS.out aP.out
        clear hK K;(try simp only [List.getElem_toArray]);(try simp only [List.getElem_cons_succ]);(try simp only [List.getElem_cons_zero]);(try simp only [Act.put]);(try simp only [List.setIfInBounds_toArray]);(try simp only [List.set_cons_succ]);(try simp only [List.set_cons_zero]);refine takeR (i:=14) (v:=?_) rfl (by kernel_rfl) ?_ (by assumption) ?_;rotate_left
        · intro w hSw;(try dsimp only at hSw);go_simp;(try with_reducible rfl)
        (try simp only [List.getElem_toArray]);(try simp only [List.getElem_cons_succ]);(try simp only [List.getElem_cons_zero]);(try simp only [Act.put]);(try simp only [List.setIfInBounds_toArray]);(try simp only [List.set_cons_succ]);(try simp only [List.set_cons_zero]);have d:ws.ownsRow W8.heap.size 29 2 (.slice (some ⟨g,0,none⟩) 4 vc) 4 (flatP (zipT a.inds b.inds k)):=ownsK_keep E.out (aC.out.block g b6);have e0:=(d.cellAt (k*2) (by omega)).trans f0;have e1:=(d.cellAt (k*2+1) (by omega)).trans f1;have ax:=d.frozenAt (k*2);have av:=d.frozenAt (k*2+1);obtain ⟨Wt,u⟩:∃ Wt,Wt=(ws.setCell ⟨g,k*2,none⟩ (.int .i64 (bits .or .i64 u1 u2))).setCell ⟨g,k*2+1,none⟩ (.int .i64 (bits .or .i64 v1 v2)):=⟨_,rfl⟩
        have aA:Hid (Wt.ownsRow W8.heap.size 29 2 (.slice (some ⟨g,0,none⟩) 4 vc) 4 (flatP (zipT a.inds b.inds (k+1)))):=by
         rw [Hid,u,← HZ.out,← flatP_set];exact ((d.stored _ _).1.stored _ _).1
        have a4:Hid (Below W8.heap.size W8 Wt):=by rw [Hid,u];exact (aS.out.setCell (p:=⟨g,k*2,none⟩) ae _).setCell (p:=⟨g,k*2+1,none⟩) ae _
        have ai:Hid (Wt.heap[bo]?=some (.cells #[.int .i64 a.kind,.int .i64 a.fn,.int .i64 a.role,.int .i64 a.above,.int .i64 a.xp,.int .i64 a.xn,.int .i64 a.yp,.int .i64 a.yn,.slice (some ⟨g,0,none⟩) 4 vc,.int .i64 a.a,.int .i64 a.b] 32 (0,0))):=by
         rw [Hid,u];exact (Below.heap_setCell _ _ _ _ (by show bo≠g;omega)).trans ((Below.heap_setCell _ _ _ _ (by show bo≠g;omega)).trans aP.out)
        refine wpAnyH_ready (rs:=[15]) (by kernel_rfl) (by simp) ?_;refine AllReadyH.cons rfl (fun K hK=>?_) AllReadyH.nil;go_simp;rw [← u];refine hK.out _ _ ?_ (fun hHeld=>?_)
        · (try dsimp only)
          with_reducible exact s.out _ a4.out ai.out
        clear hK K u e0 e1 ax av f0 f1 d;(try simp only [List.getElem_toArray]);(try simp only [List.getElem_cons_succ]);(try simp only [List.getElem_cons_zero]);(try simp only [Act.put]);(try simp only [List.setIfInBounds_toArray]);(try simp only [List.set_cons_succ]);(try simp only [List.set_cons_zero]);refine wpAnyH_done (by kernel_rfl) ?_ _;clear hHeld s a5;go_wp2_with fail;go_roundw
        case rel=>exact ⟨k+1,by omega,by go_num,aA.out,a4.out,ai.out⟩
        case measure=>simp [intOf];omega
      obtain rfl:k=4:=by omega
      have a6:Hid (wr.ownsRow W8.heap.size 29 2 (.slice (some ⟨g,0,none⟩) 4 vc) 4 (flatP (zipJ a.inds b.inds))):=by have:=E.out;rw [show zipT a.inds b.inds 4=zipJ a.inds b.inds from by rw [← HL.out.1];exact zipT_all _ _] at this;exact this
      have a7:Hid ((zipJ a.inds b.inds).length=4):=by rw [Hid,zipJ_len,HL.out.1]
      obtain ⟨f0,f1⟩:=flatP_get (zipJ a.inds b.inds) i (by rw [a7.out];exact X);have e0:=(a6.out.cellAt (i*2) (by omega)).trans f0;have e1:=(a6.out.cellAt (i*2+1) (by omega)).trans f1;have ax:=a6.out.frozenAt (i*2);have av:=a6.out.frozenAt (i*2+1);obtain ⟨m0,aZ⟩:=(show BoxP 29 wr bx m1 m2 from (aj.out.block bx aE).trans aB.out).cells;obtain ⟨Wt,u⟩:∃ Wt,Wt=(wr.setCell ⟨g,i*2,none⟩ (.int .i64 m1)).setCell ⟨g,i*2+1,none⟩ (.int .i64 m2):=⟨_,rfl⟩
      have aA:Hid (OwnP W8.heap.size Wt (.slice (some ⟨g,0,none⟩) 4 vc) ((zipJ a.inds b.inds).set i (m1,m2))):=by
       rw [Hid,OwnP,List.length_set,a7.out,u,← flatP_set];exact ((a6.out.stored _ _).1.stored _ _).1
      have a4:Hid (Below W8.heap.size W8 Wt):=by rw [Hid,u];exact (aj.out.setCell (p:=⟨g,i*2,none⟩) ae _).setCell (p:=⟨g,i*2+1,none⟩) ae _
      have ai:Hid (BoxK 32 Wt bo a.kind a.fn a.role a.above a.xp a.xn a.yp a.yn (.slice (some ⟨g,0,none⟩) 4 vc) a.a a.b):=by
       rw [Hid,u];exact (Below.heap_setCell _ _ _ _ (by show bo≠g;omega)).trans ((Below.heap_setCell _ _ _ _ (by show bo≠g;omega)).trans a3.out)
      go_upto_region 18 with fail;rw [← u];clear e0 e1 ax av f0 f1 m0 aZ x8 y8 u;obtain ⟨y0,y1,y2,y3,y4,y5,y6,y7,y8,y9,F⟩:=ai.out.cells;obtain ⟨Wz,Z⟩:∃ Wz,Wz=Wt.alloc (.cells #[.int .i64 a.kind,.int .i64 a.fn,.int .i64 a.role,.int .i64 a.above,.int .i64 a.xp,.int .i64 a.xn,.int .i64 a.yp,.int .i64 a.yn,.slice (some ⟨g,0,none⟩) 4 vc,.int .i64 a.a,.int .i64 a.b] 32):=⟨_,rfl⟩;have bb:Hid (Wz=Wt.alloc (.cells #[.int .i64 a.kind,.int .i64 a.fn,.int .i64 a.role,.int .i64 a.above,.int .i64 a.xp,.int .i64 a.xn,.int .i64 a.yp,.int .i64 a.yn,.slice (some ⟨g,0,none⟩) 4 vc,.int .i64 a.a,.int .i64 a.b] 32)):=Z;have ap:Below Wt.heap.size Wt Wz:=by rw [Z];exact (Below.refl _ _).alloc (Nat.le_refl _) _
      have bf:Hid (Below W8.heap.size W8 Wz):=a4.out.trans (ap.mono a4.out.size);have bg:Hid (OwnP W8.heap.size Wz (.slice (some ⟨g,0,none⟩) 4 vc) ((zipJ a.inds b.inds).set i (m1,m2))):=OwnP.below aA.out ap;have aJ:Wz.heap[Wt.heap.size]?=some (.cells #[.int .i64 a.kind,.int .i64 a.fn,.int .i64 a.role,.int .i64 a.above,.int .i64 a.xp,.int .i64 a.xn,.int .i64 a.yp,.int .i64 a.yn,.slice (some ⟨g,0,none⟩) 4 vc,.int .i64 a.a,.int .i64 a.b] 32 (0,0)):=by rw [Z];exact World.alloc_heap_new Wt _
      have aI:Wt.heap.size<Wz.heap.size:=by rw [Z];simp
      have HQ:Hid (RdZ 0 Wz.heap.size Wz (some ⟨Wt.heap.size,0,none⟩) 1 1 [factC ((zipJ a.inds b.inds).set i (m1,m2))]):=by
       obtain ⟨qa,qc,qe,qr⟩:=OwnP.rp bg.out;rw [List.length_set,a7.out] at qe qr;simp only [Value.slice.injEq,true_and] at qe;obtain ⟨rfl,rfl⟩:=qe;refine RdZ.one (c:=factC ((zipJ a.inds b.inds).set i (m1,m2))) (ia:=some ⟨g,0,none⟩) (ic:=vc) ?_ ?_ (Nat.zero_le _) aI
       · rw [aJ,bm.out]
         show some (Obj.cells _ _ _)=some (Obj.cells (clA (factC ((zipJ a.inds b.inds).set i (m1,m2))) (.slice (some ⟨g,0,none⟩) ((zipJ a.inds b.inds).set i (m1,m2)).length vc)) _ _)
         rw [List.length_set,a7.out];rfl
       show RP 0 Wz.heap.size Wz _ ((zipJ a.inds b.inds).set i (m1,m2)).length vc ((zipJ a.inds b.inds).set i (m1,m2))
       rw [List.length_set,a7.out];exact qr.mono (Nat.zero_le _) (Nat.le_refl _)
      clear Z ap aJ aI;go_wp2_with fail;go_ret;rw [← bb.out];exact ⟨some ⟨Wt.heap.size,0,none⟩,1,by rw [aa.out];rfl,by rw [aa.out];exact HQ.out,HF.out _ (HU.out _ bf.out)⟩
  have J:Hid (o=none):=by rw [Hid,HO.out];exact factsF_no2 (by rw [HL.out.1];exact aR.out) (by rw [HL.out.2];exact hq)
  have bs:(whoI (whoN b.inds 4) != (i:Int))=true:=by
   cases b0:whoN b.inds 4 with
   | none=>simp [whoI]
   | some j=>simp only [whoI,bne_iff_ne,ne_eq];intro e;exact hq (by rw [b0];congr 1;omega)
  clear hq;go_wp2_with fail;go_ret;exact ⟨none,0,by rw [J.out];rfl,by rw [J.out];exact RdZ.nil _ _ _,HF.out _ H5.out⟩
end Go.Proofs.Ytkjmfaohdhiiaaa
