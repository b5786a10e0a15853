/- What follows of facts, by the specification: contracts. -/
import Derived.Test.YtkjmfaohdhiiaaaNG12
import Derived.Test.YtkjmfaohdhiiaaaResS1
namespace Go.Proofs.Ytkjmfaohdhiiaaa
open Go.RowKit
set_option linter.unusedVariables false
set_option maxRecDepth 100000 in
set_option maxHeartbeats 8000000 in
theorem l7facts_fo (a b:CL) (ka:a.kind=5) (kb:b.kind=0) {ia ib:Option Addr} {ca cb la a1 lb a8:Nat} {w:World} (ha:a.ok=true) (hb:b.ok=true) (h1:RP la a1 w ia a.inds.length ca a.inds) (h2:RP lb a8 w ib b.inds.length cb b.inds) (aH:a1≤w.heap.size) (aG:a8≤w.heap.size) {o:Option CL} (ho:o=factsO a.inds b.x) :
    Calls Try.prog 104 #[.agg #[.int .i64 a.kind,.int .i64 a.fn,.int .i64 a.role,.int .i64 a.above,.int .i64 a.xp,.int .i64 a.xn,.int .i64 a.yp,.int .i64 a.yn,.slice ia a.inds.length ca,.int .i64 a.a,.int .i64 a.b],.agg #[.int .i64 b.kind,.int .i64 b.fn,.int .i64 b.role,.int .i64 b.above,.int .i64 b.xp,.int .i64 b.xn,.int .i64 b.yp,.int .i64 b.yn,.slice ib b.inds.length cb,.int .i64 b.a,.int .i64 b.b]] w (QP w o.toList):=by
 have HO:Hid (o=factsO a.inds b.x):=ho;clear ho;have l1:=((ok_facts ha).2.2.1 ka).1;have pa:=((ok_facts ha).2.2.1 ka).2;have l2:b.inds.length=0:=by rw [(ok_facts hb).2.2.2 (by omega)];rfl
 have pb:=ok_xpart hb (.inl kb);have HL:Hid (a.inds.length=4∧b.inds.length=0):=⟨l1,l2⟩;have aY:Hid (a=factC a.inds):=ok_fact ha ka;have aV:Hid (∀ j,j<4→partB (a.inds.getD j (0,0)).1 (a.inds.getD j (0,0)).2=true):=pa;have al:Hid _:=pb;have HK:Hid (b.kind=0):=kb;rw [l1] at h1 ⊢;rw [l2] at h2 ⊢
 obtain ⟨b1,o1,rfl⟩:∃ b1 o1,ia=some ⟨b1,o1,none⟩:=by
  rcases h1.cells with q | ⟨b,off,e,_⟩
  · omega
  exact ⟨b,off,e⟩
 have HR:Hid (∀ V,Below w.heap.size w V→RP la a1 V (some ⟨b1,o1,none⟩) 4 ca a.inds∧RP lb a8 V ib 0 cb b.inds):=fun V hV=>⟨h1.below hV aH,h2.below hV aG⟩
 clear h1 h2 ha hb l1 l2 pa pb ka kb;obtain ⟨W,hW⟩:∃ W,W=(w.alloc (.cells #[.int .i64 a.kind,.int .i64 a.fn,.int .i64 a.role,.int .i64 a.above,.int .i64 a.xp,.int .i64 a.xn,.int .i64 a.yp,.int .i64 a.yn,.slice (some ⟨b1,o1,none⟩) 4 ca,.int .i64 a.a,.int .i64 a.b] 32)).alloc (.cells #[.int .i64 b.kind,.int .i64 b.fn,.int .i64 b.role,.int .i64 b.above,.int .i64 b.xp,.int .i64 b.xn,.int .i64 b.yp,.int .i64 b.yn,.slice ib 0 cb,.int .i64 b.a,.int .i64 b.b] 32):=⟨_,rfl⟩;have HW:Hid (W=(w.alloc (.cells #[.int .i64 a.kind,.int .i64 a.fn,.int .i64 a.role,.int .i64 a.above,.int .i64 a.xp,.int .i64 a.xn,.int .i64 a.yp,.int .i64 a.yn,.slice (some ⟨b1,o1,none⟩) 4 ca,.int .i64 a.a,.int .i64 a.b] 32)).alloc (.cells #[.int .i64 b.kind,.int .i64 b.fn,.int .i64 b.role,.int .i64 b.above,.int .i64 b.xp,.int .i64 b.xn,.int .i64 b.yp,.int .i64 b.yn,.slice ib 0 cb,.int .i64 b.a,.int .i64 b.b] 32)):=hW;have av:Below w.heap.size w W:=by rw [hW];exact ((Below.refl _ _).alloc (Nat.le_refl _) _).alloc (by simp) _
 have b2:W.heap.size=w.heap.size+2:=by rw [hW];simp
 have an:BoxK 32 W w.heap.size a.kind a.fn a.role a.above a.xp a.xn a.yp a.yn (.slice (some ⟨b1,o1,none⟩) 4 ca) a.a a.b:=by
  rw [hW];exact (BoxK.new 32 w _ _ _ _ _ _ _ _ _ _ _).below ((Below.refl _ _).alloc (Nat.le_refl _) _) (by simp)
 have am:BoxK 32 W (w.heap.size+1) b.kind b.fn b.role b.above b.xp b.xn b.yp b.yn (.slice ib 0 cb) b.a b.b:=by
  rw [hW];have:=BoxK.new 32 (w.alloc (.cells #[.int .i64 a.kind,.int .i64 a.fn,.int .i64 a.role,.int .i64 a.above,.int .i64 a.xp,.int .i64 a.xn,.int .i64 a.yp,.int .i64 a.yn,.slice (some ⟨b1,o1,none⟩) 4 ca,.int .i64 a.a,.int .i64 a.b] 32)) b.kind b.fn b.role b.above b.xp b.xn b.yp b.yn (.slice ib 0 cb) b.a b.b;rw [show (w.alloc (.cells #[.int .i64 a.kind,.int .i64 a.fn,.int .i64 a.role,.int .i64 a.above,.int .i64 a.xp,.int .i64 a.xn,.int .i64 a.yp,.int .i64 a.yn,.slice (some ⟨b1,o1,none⟩) 4 ca,.int .i64 a.a,.int .i64 a.b] 32)).heap.size=w.heap.size+1 from by simp] at this;exact this
 have HB:Hid (∀ V,Below W.heap.size W V→BoxK 32 V w.heap.size a.kind a.fn a.role a.above a.xp a.xn a.yp a.yn (.slice (some ⟨b1,o1,none⟩) 4 ca) a.a a.b∧BoxK 32 V (w.heap.size+1) b.kind b.fn b.role b.above b.xp b.xn b.yp b.yn (.slice ib 0 cb) b.a b.b):=fun V hV=>⟨an.below hV (by omega),am.below hV (by omega)⟩
 have HF:Hid (∀ V,Below W.heap.size W V→Below w.heap.size w V):=fun V hV=>av.trans (hV.mono (by omega))
 have H0:Hid (Below W.heap.size W W):=Below.refl _ _;clear hW av an am;obtain ⟨y0,y1,y2,y3,y4,y5,y6,y7,y8,y9,s⟩:=(HB.out _ H0.out).1.cells;obtain ⟨v0,v1,v2,v3,v4,v5,v6,v7,v8,v9,A⟩:=(HB.out _ H0.out).2.cells;go_enter Try.func104, Try.ntmps104;go_upto_region 1 with fail;rw [← HW.out];go_wp2_with fail;refine (l7who_any (HR.out _ (HF.out _ H0.out)).1 (by omega)).mono ?_;rintro e w1 ⟨rfl,au⟩;have H1:Hid (Below W.heap.size W w1):=au;clear au y0 y1 y2 y3 y4 y5 y6 y7 y8 y9 s v0 v1 v2 v3 v4 v5 v6 v7 v8 v9 A;cases hw1:whoN a.inds 4 with
 | none =>
  have M:Hid (o=none):=by rw [Hid,HO.out];exact factsO_no (by rw [HL.out.1];exact hw1)
  clear hw1;simp only [whoI];go_wp2_with fail;go_ret;exact ⟨none,0,by rw [M.out];rfl,by rw [M.out];exact RdZ.nil _ _ _,HF.out _ H1.out⟩
 | some i =>
  have aQ:Hid (whoN a.inds 4=some i):=hw1;have a9:i<4:=(whoN_lt hw1).1;have b4:(i:Int)<4:=by omega
  have b3:¬ ((i:Int)<0):=by omega
  clear hw1;simp only [whoI];obtain ⟨y0,y1,y2,y3,y4,y5,y6,y7,y8,y9,s⟩:=(HB.out _ H1.out).1.cells;obtain ⟨v0,v1,v2,v3,v4,v5,v6,v7,v8,v9,A⟩:=(HB.out _ H1.out).2.cells;rw [HK.out] at v0;obtain ⟨bw,a2⟩:∃ bw,bw=w1.heap.size:=⟨_,rfl⟩;obtain ⟨W2,a5⟩:∃ W2,W2=w1.alloc (.cells #[.int .i64 b.xp,.int .i64 b.xn] 29):=⟨_,rfl⟩;have aP:Hid (W2=w1.alloc (.cells #[.int .i64 b.xp,.int .i64 b.xn] 29)):=a5;have ar:Below w1.heap.size w1 W2:=by rw [a5];exact (Below.refl _ _).alloc (Nat.le_refl _) _
  have H2:Hid (Below W.heap.size W W2):=H1.out.trans (ar.mono H1.out.size);have aW:Hid (BoxP 29 W2 bw b.xp b.xn):=by rw [Hid,a5,a2];exact BoxP.new _ w1 _ _
  have b7:Hid (W.heap.size≤bw):=by rw [Hid,a2];exact H1.out.size
  have aZ:Hid (bw=w1.heap.size):=a2;clear a5 ar a2;go_upto_region 5 with fail;rw [← aP.out,← aZ.out];clear y0 y1 y2 y3 y4 y5 y6 y7 y8 y9 s v0 v1 v2 v3 v4 v5 v6 v7 v8 v9 A;obtain ⟨y0,y1,y2,y3,y4,y5,y6,y7,y8,y9,s⟩:=(HB.out _ H2.out).1.cells;obtain ⟨v0,v1,v2,v3,v4,v5,v6,v7,v8,v9,A⟩:=(HB.out _ H2.out).2.cells;rw [HK.out] at v0;obtain ⟨⟨p1,q1⟩,X⟩:∃ x,x=a.inds.getD i (0,0):=⟨_,rfl⟩;obtain ⟨p2,Z⟩:∃ p2,p2=b.xp:=⟨_,rfl⟩;obtain ⟨q2,Y⟩:∃ q2,q2=b.xn:=⟨_,rfl⟩;have HX:Hid ((p1,q1)=a.inds.getD i (0,0)):=X
  have aB:Hid (partB p1 q1=true∧partB p2 q2=true):=by
   have e1:=aV.out i a9;rw [← X] at e1;exact ⟨e1,by rw [Z,Y];exact al.out⟩
  have T:BoxP 29 W2 bw p2 q2:=by rw [Z,Y];exact aW.out
  have U:Hid (factsO a.inds b.x=(meetP (p1,q1) (p2,q2)).map (fun p=>factC (a.inds.set i p))):=by
   have d:b.x=(p2,q2):=by rw [Z,Y];rfl
   rw [Hid,factsO_yes (by rw [HL.out.1];exact aQ.out),← X,d]
  go_upto_region 9 with fail;obtain ⟨w6,t⟩:∃ w6,w6=W2:=⟨_,rfl⟩;have H6:Hid (Below W.heap.size W w6):=by rw [t];exact H2.out
  have aC:Hid (BoxP 29 w6 bw p2 q2):=by rw [t];exact T
  rw [← t];clear t T Z Y X y0 y1 y2 y3 y4 y5 y6 y7 y8 y9 s v0 v1 v2 v3 v4 v5 v6 v7 v8 v9 A;have t:W.heap.size≤w6.heap.size:=H6.out.size
  have z:Hid (∀ V,Below w6.heap.size w6 V→V.cell? ⟨w.heap.size,8,none⟩=some (.slice (some ⟨b1,o1,none⟩) 4 ca)∧V.cell? ⟨b1,o1+i*2,none⟩=some (.int .i64 p1)∧V.cell? ⟨b1,o1+i*2+1,none⟩=some (.int .i64 q1)∧V.cell? ⟨bw,0,none⟩=some (.int .i64 p2)∧V.cell? ⟨bw,1,none⟩=some (.int .i64 q2)):=by
   intro V hV;have ax:Below W.heap.size W V:=H6.out.trans (hV.mono t);obtain ⟨h1,_⟩:=HR.out V (HF.out V ax);obtain ⟨c0,c1,_⟩:=h1.at a9;rw [← HX.out] at c0 c1;have hp:=(aC.out.below hV aC.out.lt).cells;exact ⟨(HB.out V ax).1.cells.2.2.2.2.2.2.2.2.1,c0,c1,hp.1,hp.2⟩
  have a7:Below w6.heap.size w6 w6.drew:=(Below.refl _ _).drew;have HM:=meetP_eq (p1,q1) (p2,q2);have ad:∀ V,Calls Try.prog 101 #[.agg #[.int .i64 p1,.int .i64 q1],.agg #[.int .i64 p2,.int .i64 q2]] V fun e w'=>e=.returned (.tuple #[.agg #[.int .i64 (meetR (p1,q1) (p2,q2)).1.1,.int .i64 (meetR (p1,q1) (p2,q2)).1.2],.bool (meetR (p1,q1) (p2,q2)).2])∧Below V.heap.size V w':=fun V=>l7meet_any aB.out.1 aB.out.2 V
  obtain ⟨⟨⟨m1,m2⟩,ok⟩,hm⟩:∃ m,m=meetR (p1,q1) (p2,q2):=⟨_,rfl⟩;rw [← hm] at HM;simp only [← hm] at ad;have aj:Hid (∀ V,Calls Try.prog 101 #[.agg #[.int .i64 p1,.int .i64 q1],.agg #[.int .i64 p2,.int .i64 q2]] V fun e w'=>e=.returned (.tuple #[.agg #[.int .i64 m1,.int .i64 m2],.bool ok])∧Below V.heap.size V w'):=ad
  have aD:Hid (o=if ok=true then some (factC ((a.inds).set i (m1,m2))) else none):=by
   rw [Hid,HO.out,U.out,HM];cases ok <;> rfl
  clear hm HM ad;refine wp_region_held_drew (S:=(fun V=>V.cell? ⟨w.heap.size,8,none⟩=some (.slice (some ⟨b1,o1,none⟩) 4 ca)∧V.cell? ⟨b1,o1+i*2,none⟩=some (.int .i64 p1)∧V.cell? ⟨b1,o1+i*2+1,none⟩=some (.int .i64 q1)∧V.cell? ⟨bw,0,none⟩=some (.int .i64 p2)∧V.cell? ⟨bw,1,none⟩=some (.int .i64 q2))) (by kernel_rfl) ?_ (fun hHeld=>?_)
  · (try dsimp only)
    with_reducible exact z.out _ a7
  refine takeR (i:=0) (v:=?_) rfl (by kernel_rfl) ?_ (by assumption) ?_;rotate_left
  · intro w hSw;(try dsimp only at hSw);go_simp;(try with_reducible rfl)
  (try simp only [List.getElem_toArray]);(try simp only [List.getElem_cons_succ]);(try simp only [List.getElem_cons_zero]);(try simp only [Act.put]);(try simp only [List.setIfInBounds_toArray]);(try simp only [List.set_cons_succ]);(try simp only [List.set_cons_zero]);refine takeR (i:=1) (v:=?_) rfl (by kernel_rfl) ?_ (by assumption) ?_;rotate_left
  · intro w hSw;(try dsimp only at hSw);go_simp;(try with_reducible rfl)
  (try simp only [List.getElem_toArray]);(try simp only [List.getElem_cons_succ]);(try simp only [List.getElem_cons_zero]);(try simp only [Act.put]);(try simp only [List.setIfInBounds_toArray]);(try simp only [List.set_cons_succ]);(try simp only [List.set_cons_zero]);refine takeR (i:=2) (v:=?_) rfl (by kernel_rfl) ?_ (by assumption) ?_;rotate_left
  · intro w hSw;(try dsimp only at hSw);go_simp;(try with_reducible rfl)
  (try simp only [List.getElem_toArray]);(try simp only [List.getElem_cons_succ]);(try simp only [List.getElem_cons_zero]);(try simp only [Act.put]);(try simp only [List.setIfInBounds_toArray]);(try simp only [List.set_cons_succ]);(try simp only [List.set_cons_zero]);refine takeR (i:=3) (v:=?_) rfl (by kernel_rfl) ?_ (by assumption) ?_;rotate_left
  · intro w hSw;(try dsimp only at hSw);go_simp;(try with_reducible rfl)
  (try simp only [List.getElem_toArray]);(try simp only [List.getElem_cons_succ]);(try simp only [List.getElem_cons_zero]);(try simp only [Act.put]);(try simp only [List.setIfInBounds_toArray]);(try simp only [List.set_cons_succ]);(try simp only [List.set_cons_zero]);refine takeR (i:=4) (v:=?_) rfl (by kernel_rfl) ?_ (by assumption) ?_;rotate_left
  · intro w hSw;(try dsimp only at hSw);go_simp;(try with_reducible rfl)
  (try simp only [List.getElem_toArray]);(try simp only [List.getElem_cons_succ]);(try simp only [List.getElem_cons_zero]);(try simp only [Act.put]);(try simp only [List.setIfInBounds_toArray]);(try simp only [List.set_cons_succ]);(try simp only [List.set_cons_zero]);refine takeR (i:=5) (v:=?_) rfl (by kernel_rfl) ?_ (by assumption) ?_;rotate_left
  · intro w hSw;(try dsimp only at hSw);go_simp;(try with_reducible rfl)
  (try simp only [List.getElem_toArray]);(try simp only [List.getElem_cons_succ]);(try simp only [List.getElem_cons_zero]);(try simp only [Act.put]);(try simp only [List.setIfInBounds_toArray]);(try simp only [List.set_cons_succ]);(try simp only [List.set_cons_zero]);refine wpAnyH_ready (rs:=[6,10]) (by kernel_rfl) (by simp) ?_;refine AllReadyH.cons rfl (fun K hK=>?callF) (AllReadyH.cons rfl (fun K hK=>?allocF) AllReadyH.nil)
  case' callF =>
   go_simp;go_wp2_with (go_at_call 101;refine (aj.out _).mono ?_;rintro e w7 ⟨rfl,hb⟩;have a6:Hid (Below _ _ w7):=hb;clear hb);have H7:Hid (Below w6.heap.size w6 w7):=a7.trans (a6.out.mono a7.size);refine hK.out _ _ ?_ (fun hHeld=>?_)
   · (try dsimp only)
     with_reducible exact z.out _ H7.out
   clear hK K;(try simp only [List.getElem_toArray]);(try simp only [List.getElem_cons_succ]);(try simp only [List.getElem_cons_zero]);(try simp only [Act.put]);(try simp only [List.setIfInBounds_toArray]);(try simp only [List.set_cons_succ]);(try simp only [List.set_cons_zero]);refine takeR (i:=7) (v:=?_) rfl (by kernel_rfl) ?_ (by assumption) ?_;rotate_left
   · intro w hSw;(try dsimp only at hSw);go_simp;(try with_reducible rfl)
   (try simp only [List.getElem_toArray]);(try simp only [List.getElem_cons_succ]);(try simp only [List.getElem_cons_zero]);(try simp only [Act.put]);(try simp only [List.setIfInBounds_toArray]);(try simp only [List.set_cons_succ]);(try simp only [List.set_cons_zero]);refine takeR (i:=8) (v:=?_) rfl (by kernel_rfl) ?_ (by assumption) ?_;rotate_left
   · intro w hSw;(try dsimp only at hSw);go_simp;(try with_reducible rfl)
   (try simp only [List.getElem_toArray]);(try simp only [List.getElem_cons_succ]);(try simp only [List.getElem_cons_zero]);(try simp only [Act.put]);(try simp only [List.setIfInBounds_toArray]);(try simp only [List.set_cons_succ]);(try simp only [List.set_cons_zero]);refine takeR (i:=9) (v:=?_) rfl (by kernel_rfl) ?_ (by assumption) ?_;rotate_left
   · intro w hSw;(try dsimp only at hSw);go_simp;(try with_reducible rfl)
   (try simp only [List.getElem_toArray]);(try simp only [List.getElem_cons_succ]);(try simp only [List.getElem_cons_zero]);(try simp only [Act.put]);(try simp only [List.setIfInBounds_toArray]);(try simp only [List.set_cons_succ]);(try simp only [List.set_cons_zero]);obtain ⟨bx,d⟩:∃ bx,bx=w7.heap.size:=⟨_,rfl⟩;obtain ⟨Wb,D⟩:∃ Wb,Wb=w7.alloc (.cells #[.int .i64 0,.int .i64 0] 29):=⟨_,rfl⟩;have u:Hid (Below w6.heap.size w6 Wb):=by rw [Hid,D];exact H7.out.alloc H7.out.size _
   have h:Hid (BoxP 29 Wb bx 0 0):=by rw [Hid,D,d];exact BoxP.new _ w7 _ _
   have H:w6.heap.size≤bx:=by rw [d];exact H7.out.size
   refine wpAnyH_ready (rs:=[10]) (by kernel_rfl) (by simp) ?_;refine AllReadyH.cons rfl (fun K hK=>?_) AllReadyH.nil;go_simp;rw [← D,← d];refine hK.out _ _ ?_ (fun hHeld=>?_)
   · (try dsimp only)
     with_reducible exact z.out _ u.out
   clear hK K D d;(try simp only [List.getElem_toArray]);(try simp only [List.getElem_cons_succ]);(try simp only [List.getElem_cons_zero]);(try simp only [Act.put]);(try simp only [List.setIfInBounds_toArray]);(try simp only [List.set_cons_succ]);(try simp only [List.set_cons_zero]);obtain ⟨d0,d1⟩:=h.out.cells;have af:=h.out.frz 0;have ae:=h.out.frz 1;obtain ⟨W8,r⟩:∃ W8,W8=(Wb.setCell ⟨bx,0,none⟩ (.int .i64 m1)).setCell ⟨bx,1,none⟩ (.int .i64 m2):=⟨_,rfl⟩;have H8:Hid (Below w6.heap.size w6 W8):=by rw [Hid,r];exact (u.out.setCell (p:=⟨bx,0,none⟩) H _).setCell (p:=⟨bx,1,none⟩) H _
   have ai:Hid (BoxP 29 W8 bx m1 m2):=by rw [Hid,r];exact (h.out.set0 m1).set1 m2
   refine wpAnyH_ready (rs:=[11]) (by kernel_rfl) (by simp) ?_;refine AllReadyH.cons rfl (fun K hK=>?_) AllReadyH.nil;go_simp;rw [← r];refine hK.out _ _ ?_ (fun hHeld=>?_)
   · (try dsimp only)
     with_reducible exact z.out _ H8.out
   clear hK K r d0 d1 af ae h u;(try simp only [List.getElem_toArray]);(try simp only [List.getElem_cons_succ]);(try simp only [List.getElem_cons_zero]);(try simp only [Act.put]);(try simp only [List.setIfInBounds_toArray]);(try simp only [List.set_cons_succ]);(try simp only [List.set_cons_zero]);refine takeR (i:=12) (v:=?_) rfl (by kernel_rfl) ?_ (by assumption) ?_;rotate_left
   · intro w hSw;(try dsimp only at hSw);go_simp;(try with_reducible rfl)
   (try simp only [List.getElem_toArray]);(try simp only [List.getElem_cons_succ]);(try simp only [List.getElem_cons_zero]);(try simp only [Act.put]);(try simp only [List.setIfInBounds_toArray]);(try simp only [List.set_cons_succ]);(try simp only [List.set_cons_zero]);refine wpAnyH_done (by kernel_rfl) ?_ _
  case' allocF =>
   go_simp;obtain ⟨bx,d⟩:∃ bx,bx=w6.heap.size:=⟨_,rfl⟩;obtain ⟨Wq,L⟩:∃ Wq,Wq=(w6.alloc (.cells #[.int .i64 0,.int .i64 0] 29)).drew:=⟨_,rfl⟩;have ah:Hid (Below w6.heap.size w6 Wq):=by rw [Hid,L];exact ((Below.refl _ _).alloc (Nat.le_refl _) _).drew
   have aU:Hid (BoxP 29 Wq bx 0 0):=by rw [Hid,L,d];exact BoxP.new _ w6 _ _
   have H:w6.heap.size≤bx:=by rw [d];exact Nat.le_refl _
   have aI:bx<Wq.heap.size:=by rw [L,d];show w6.heap.size<(w6.alloc (.cells #[.int .i64 0,.int .i64 0] 29)).heap.size;simp
   try rw [← d]
   rw [← L];refine hK.out _ _ ?_ (fun hHeld=>?_)
   · (try dsimp only)
     with_reducible exact z.out _ ah.out
   clear hK K L d;(try simp only [List.getElem_toArray]);(try simp only [List.getElem_cons_succ]);(try simp only [List.getElem_cons_zero]);(try simp only [Act.put]);(try simp only [List.setIfInBounds_toArray]);(try simp only [List.set_cons_succ]);(try simp only [List.set_cons_zero]);refine wpAnyH_ready (rs:=[6]) (by kernel_rfl) (by simp) ?_;refine AllReadyH.cons rfl (fun K hK=>?_) AllReadyH.nil;go_simp;go_wp2_with (go_at_call 101;refine (aj.out _).mono ?_;rintro e w7 ⟨rfl,hb⟩;have a6:Hid (Below _ _ w7):=hb;clear hb);have u:Hid (Below w6.heap.size w6 w7):=ah.out.trans (a6.out.mono ah.out.size);have h:Hid (BoxP 29 w7 bx 0 0):=aU.out.below a6.out aI;refine hK.out _ _ ?_ (fun hHeld=>?_)
   · (try dsimp only)
     with_reducible exact z.out _ u.out
   clear hK K;(try simp only [List.getElem_toArray]);(try simp only [List.getElem_cons_succ]);(try simp only [List.getElem_cons_zero]);(try simp only [Act.put]);(try simp only [List.setIfInBounds_toArray]);(try simp only [List.set_cons_succ]);(try simp only [List.set_cons_zero]);refine takeR (i:=7) (v:=?_) rfl (by kernel_rfl) ?_ (by assumption) ?_;rotate_left
   · intro w hSw;(try dsimp only at hSw);go_simp;(try with_reducible rfl)
   (try simp only [List.getElem_toArray]);(try simp only [List.getElem_cons_succ]);(try simp only [List.getElem_cons_zero]);(try simp only [Act.put]);(try simp only [List.setIfInBounds_toArray]);(try simp only [List.set_cons_succ]);(try simp only [List.set_cons_zero]);refine takeR (i:=8) (v:=?_) rfl (by kernel_rfl) ?_ (by assumption) ?_;rotate_left
   · intro w hSw;(try dsimp only at hSw);go_simp;(try with_reducible rfl)
   (try simp only [List.getElem_toArray]);(try simp only [List.getElem_cons_succ]);(try simp only [List.getElem_cons_zero]);(try simp only [Act.put]);(try simp only [List.setIfInBounds_toArray]);(try simp only [List.set_cons_succ]);(try simp only [List.set_cons_zero]);refine takeR (i:=9) (v:=?_) rfl (by kernel_rfl) ?_ (by assumption) ?_;rotate_left
   · intro w hSw;(try dsimp only at hSw);go_simp;(try with_reducible rfl)
   (try simp only [List.getElem_toArray]);(try simp only [List.getElem_cons_succ]);(try simp only [List.getElem_cons_zero]);(try simp only [Act.put]);(try simp only [List.setIfInBounds_toArray]);(try simp only [List.set_cons_succ]);(try simp only [List.set_cons_zero]);obtain ⟨Wb,D⟩:∃ Wb,Wb=w7:=⟨_,rfl⟩;rw [← D] at u h hHeld ⊢;clear D;obtain ⟨d0,d1⟩:=h.out.cells;have af:=h.out.frz 0;have ae:=h.out.frz 1;obtain ⟨W8,r⟩:∃ W8,W8=(Wb.setCell ⟨bx,0,none⟩ (.int .i64 m1)).setCell ⟨bx,1,none⟩ (.int .i64 m2):=⟨_,rfl⟩;have H8:Hid (Below w6.heap.size w6 W8):=by rw [Hid,r];exact (u.out.setCell (p:=⟨bx,0,none⟩) H _).setCell (p:=⟨bx,1,none⟩) H _
   have ai:Hid (BoxP 29 W8 bx m1 m2):=by rw [Hid,r];exact (h.out.set0 m1).set1 m2
   refine wpAnyH_ready (rs:=[11]) (by kernel_rfl) (by simp) ?_;refine AllReadyH.cons rfl (fun K hK=>?_) AllReadyH.nil;go_simp;rw [← r];refine hK.out _ _ ?_ (fun hHeld=>?_)
   · (try dsimp only)
     with_reducible exact z.out _ H8.out
   clear hK K r d0 d1 af ae h u;(try simp only [List.getElem_toArray]);(try simp only [List.getElem_cons_succ]);(try simp only [List.getElem_cons_zero]);(try simp only [Act.put]);(try simp only [List.setIfInBounds_toArray]);(try simp only [List.set_cons_succ]);(try simp only [List.set_cons_zero]);refine takeR (i:=12) (v:=?_) rfl (by kernel_rfl) ?_ (by assumption) ?_;rotate_left
   · intro w hSw;(try dsimp only at hSw);go_simp;(try with_reducible rfl)
   (try simp only [List.getElem_toArray]);(try simp only [List.getElem_cons_succ]);(try simp only [List.getElem_cons_zero]);(try simp only [Act.put]);(try simp only [List.setIfInBounds_toArray]);(try simp only [List.set_cons_succ]);(try simp only [List.set_cons_zero]);refine wpAnyH_done (by kernel_rfl) ?_ _
  all_goals
   clear hHeld z a7 aj;have HU:Hid (∀ V,Below W8.heap.size W8 V→Below W.heap.size W V):=fun V hV=>(H6.out.trans (H8.out.mono t)).trans (hV.mono (by have:=H8.out.size;omega))
   have ay:Below W.heap.size W W8:=H6.out.trans (H8.out.mono t);have O:Hid (Below W.heap.size W W8):=ay;have ak:bx<W8.heap.size:=ai.out.lt;clear ay;cases ok
   · have M:Hid (o=none):=aD.out;go_wp2_with fail;go_ret;exact ⟨none,0,by rw [M.out];rfl,by rw [M.out];exact RdZ.nil _ _ _,HF.out _ O.out⟩
   have R:Hid (o=some (factC ((a.inds).set i (m1,m2)))):=aD.out;obtain ⟨y0,y1,y2,y3,y4,y5,y6,y7,y8,y9,s⟩:=(HB.out _ O.out).1.cells;obtain ⟨v0,v1,v2,v3,v4,v5,v6,v7,v8,v9,A⟩:=(HB.out _ O.out).2.cells;go_wp2_with fail;have E:=l6own_any a (ic:=some ⟨b1,o1,none⟩) (cc:=ca) (lo:=la) (hi:=a1) (w:=W8) (by rw [HL.out.1];exact (HR.out _ (HF.out _ O.out)).1) (by have:=(HF.out _ O.out).size;omega) (by rw [HL.out.1];omega);rw [HL.out.1] at E;refine E.mono ?_;clear E;rintro e w9 ⟨g,vc,rfl,a0,ac⟩;rw [HL.out.1] at a0 ⊢;have aa:=(World.ownsRow.lt a0 g rfl);obtain ⟨bo,a3⟩:∃ bo,bo=w9.heap.size:=⟨_,rfl⟩;obtain ⟨W9,a4⟩:∃ W9,W9=w9.alloc (.cells #[.int .i64 a.kind,.int .i64 a.fn,.int .i64 a.role,.int .i64 a.above,.int .i64 a.xp,.int .i64 a.xn,.int .i64 a.yp,.int .i64 a.yn,.slice (some ⟨g,0,none⟩) 4 vc,.int .i64 a.a,.int .i64 a.b] 32):=⟨_,rfl⟩;have aO:Hid (W9=w9.alloc (.cells #[.int .i64 a.kind,.int .i64 a.fn,.int .i64 a.role,.int .i64 a.above,.int .i64 a.xp,.int .i64 a.xn,.int .i64 a.yp,.int .i64 a.yn,.slice (some ⟨g,0,none⟩) 4 vc,.int .i64 a.a,.int .i64 a.b] 32)):=a4;have F:Below w9.heap.size w9 W9:=by rw [a4];exact (Below.refl _ _).alloc (Nat.le_refl _) _
   have b0:Hid (Below W8.heap.size W8 W9):=ac.trans (F.mono ac.size)
   have aX:Hid (W9.ownsRow W8.heap.size 29 2 (.slice (some ⟨g,0,none⟩) 4 vc) 4 (flatP a.inds)):=by
    have:=OwnP.below a0 F;rw [OwnP,HL.out.1] at this;exact this
   have aM:Hid (BoxK 32 W9 bo a.kind a.fn a.role a.above a.xp a.xn a.yp a.yn (.slice (some ⟨g,0,none⟩) 4 vc) a.a a.b):=by rw [Hid,a4,a3];exact BoxK.new _ w9 _ _ _ _ _ _ _ _ _ _ _
   have aq:W8.heap.size≤g:=aa.1;have b6:g<bo:=by rw [a3];exact aa.2
   have aE:Hid (bo=w9.heap.size):=a3;clear a0 ac F aa a3 a4 y0 y1 y2 y3 y4 y5 y6 y7 y8 y9 s v0 v1 v2 v3 v4 v5 v6 v7 v8 v9 A;go_upto_region 14 with fail;rw [← aO.out,← aE.out];clear aE;go_loopw [10] (fun cq wr=>cq=.int .i64 (0:Int)∧wr=W9) (fun _ _=>0)
   case atStart=>exact ⟨rfl,rfl⟩
   case round =>
    obtain ⟨rfl,rfl⟩:=hrel;have ag:Hid (Below W8.heap.size W8 wr):=b0.out;have az:Hid (BoxK 32 wr bo a.kind a.fn a.role a.above a.xp a.xn a.yp a.yn (.slice (some ⟨g,0,none⟩) 4 vc) a.a a.b):=aM.out;have G:Hid (wr.ownsRow W8.heap.size 29 2 (.slice (some ⟨g,0,none⟩) 4 vc) 4 (flatP a.inds)):=aX.out;have N:Hid (a.inds.length=4):=HL.out.1;have x8:=az.out.cells.2.2.2.2.2.2.2.2.1;have y8:=(HB.out _ (HU.out _ ag.out)).2.cells.2.2.2.2.2.2.2.2.1;have b5:g<wr.heap.size:=(World.ownsRow.lt G.out g rfl).2;obtain ⟨f0,f1⟩:=flatP_get (a.inds) i (by rw [N.out];exact a9);have e0:=(G.out.cellAt (i*2) (by omega)).trans f0;have e1:=(G.out.cellAt (i*2+1) (by omega)).trans f1;have aK:=G.out.frozenAt (i*2);have aJ:=G.out.frozenAt (i*2+1);obtain ⟨m0,aF⟩:=(show BoxP 29 wr bx m1 m2 from (ag.out.block bx ak).trans ai.out).cells;obtain ⟨Wt,J⟩:∃ Wt,Wt=(wr.setCell ⟨g,i*2,none⟩ (.int .i64 m1)).setCell ⟨g,i*2+1,none⟩ (.int .i64 m2):=⟨_,rfl⟩
    have aT:Hid (OwnP W8.heap.size Wt (.slice (some ⟨g,0,none⟩) 4 vc) ((a.inds).set i (m1,m2))):=by
     rw [Hid,OwnP,List.length_set,N.out,J,← flatP_set];exact ((G.out.stored _ _).1.stored _ _).1
    have aA:Hid (Below W8.heap.size W8 Wt):=by rw [Hid,J];exact (ag.out.setCell (p:=⟨g,i*2,none⟩) aq _).setCell (p:=⟨g,i*2+1,none⟩) aq _
    have aL:Hid (BoxK 32 Wt bo a.kind a.fn a.role a.above a.xp a.xn a.yp a.yn (.slice (some ⟨g,0,none⟩) 4 vc) a.a a.b):=by
     rw [Hid,J];exact (Below.heap_setCell _ _ _ _ (by show bo≠g;omega)).trans ((Below.heap_setCell _ _ _ _ (by show bo≠g;omega)).trans az.out)
    go_upto_region 18 with fail;rw [← J];clear e0 e1 aK aJ f0 f1 m0 aF x8 y8 J;obtain ⟨y0,y1,y2,y3,y4,y5,y6,y7,y8,y9,s⟩:=aL.out.cells;obtain ⟨Wz,I⟩:∃ Wz,Wz=Wt.alloc (.cells #[.int .i64 a.kind,.int .i64 a.fn,.int .i64 a.role,.int .i64 a.above,.int .i64 a.xp,.int .i64 a.xn,.int .i64 a.yp,.int .i64 a.yn,.slice (some ⟨g,0,none⟩) 4 vc,.int .i64 a.a,.int .i64 a.b] 32):=⟨_,rfl⟩;have aN:Hid (Wz=Wt.alloc (.cells #[.int .i64 a.kind,.int .i64 a.fn,.int .i64 a.role,.int .i64 a.above,.int .i64 a.xp,.int .i64 a.xn,.int .i64 a.yp,.int .i64 a.yn,.slice (some ⟨g,0,none⟩) 4 vc,.int .i64 a.a,.int .i64 a.b] 32)):=I;have ab:Below Wt.heap.size Wt Wz:=by rw [I];exact (Below.refl _ _).alloc (Nat.le_refl _) _
    have aR:Hid (Below W8.heap.size W8 Wz):=aA.out.trans (ab.mono aA.out.size);have aS:Hid (OwnP W8.heap.size Wz (.slice (some ⟨g,0,none⟩) 4 vc) ((a.inds).set i (m1,m2))):=OwnP.below aT.out ab;have ap:Wz.heap[Wt.heap.size]?=some (.cells #[.int .i64 a.kind,.int .i64 a.fn,.int .i64 a.role,.int .i64 a.above,.int .i64 a.xp,.int .i64 a.xn,.int .i64 a.yp,.int .i64 a.yn,.slice (some ⟨g,0,none⟩) 4 vc,.int .i64 a.a,.int .i64 a.b] 32 (0,0)):=by rw [I];exact World.alloc_heap_new Wt _
    have ao:Wt.heap.size<Wz.heap.size:=by rw [I];simp
    have HQ:Hid (RdZ 0 Wz.heap.size Wz (some ⟨Wt.heap.size,0,none⟩) 1 1 [factC ((a.inds).set i (m1,m2))]):=by
     obtain ⟨qa,qc,qe,qr⟩:=OwnP.rp aS.out;rw [List.length_set,N.out] at qe qr;simp only [Value.slice.injEq,true_and] at qe;obtain ⟨rfl,rfl⟩:=qe;refine RdZ.one (c:=factC ((a.inds).set i (m1,m2))) (ia:=some ⟨g,0,none⟩) (ic:=vc) ?_ ?_ (Nat.zero_le _) ao
     · rw [ap,aY.out]
       show some (Obj.cells _ _ _)=some (Obj.cells (clA (factC ((a.inds).set i (m1,m2))) (.slice (some ⟨g,0,none⟩) ((a.inds).set i (m1,m2)).length vc)) _ _)
       rw [List.length_set,N.out];rfl
     show RP 0 Wz.heap.size Wz _ ((a.inds).set i (m1,m2)).length vc ((a.inds).set i (m1,m2))
     rw [List.length_set,N.out];exact qr.mono (Nat.zero_le _) (Nat.le_refl _)
    clear I ab ap ao;go_wp2_with fail;go_ret;rw [← aN.out];exact ⟨some ⟨Wt.heap.size,0,none⟩,1,by rw [R.out];rfl,by rw [R.out];exact HQ.out,HF.out _ (HU.out _ aR.out)⟩
end Go.Proofs.Ytkjmfaohdhiiaaa
