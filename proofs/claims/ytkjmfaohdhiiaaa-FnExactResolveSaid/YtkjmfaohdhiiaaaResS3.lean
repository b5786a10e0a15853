/- What follows of a clause with another one, by the specification: a contract. -/
import Derived.Test.YtkjmfaohdhiiaaaResS1b
namespace Go.Proofs.Ytkjmfaohdhiiaaa
open Go.RowKit
set_option linter.unusedVariables false
set_option maxRecDepth 100000 in
set_option maxHeartbeats 8000000 in
theorem l7one_00 (a b:CL) (ka:a.kind=0) (kb:b.kind=0) {ia ib:Option Addr} {ca cb la h lb d:Nat} {w:World} (ha:a.ok=true) (hb:b.ok=true) (h1:RP la h w ia a.inds.length ca a.inds) (h2:RP lb d w ib b.inds.length cb b.inds) (G:h≤w.heap.size) (F:d≤w.heap.size) {o:Option CL} (ho:o=(meetP a.x b.x).map oneC) :
    Calls Try.prog 91 #[.agg #[.int .i64 a.kind,.int .i64 a.fn,.int .i64 a.role,.int .i64 a.above,.int .i64 a.xp,.int .i64 a.xn,.int .i64 a.yp,.int .i64 a.yn,.slice ia a.inds.length ca,.int .i64 a.a,.int .i64 a.b],.agg #[.int .i64 b.kind,.int .i64 b.fn,.int .i64 b.role,.int .i64 b.above,.int .i64 b.xp,.int .i64 b.xn,.int .i64 b.yp,.int .i64 b.yn,.slice ib b.inds.length cb,.int .i64 b.a,.int .i64 b.b]] w (QP w o.toList):=by
 have HO:Hid (o=(meetP a.x b.x).map oneC):=ho;have a9:Hid (partB a.xp a.xn=true∧partB b.xp b.xn=true):=⟨ok_xpart ha (.inl ka),ok_xpart hb (.inl kb)⟩;have a7:(a.kind == 0)=true:=by rw [ka];rfl
 have a6:(a.kind == 1)=false:=by rw [ka];rfl
 have a5:(a.kind == 2)=false:=by rw [ka];rfl
 have a4:(a.kind == 5)=false:=by rw [ka];rfl
 have a3:(a.kind == 6)=false:=by rw [ka];rfl
 have a2:(b.kind == 0)=true:=by rw [kb];rfl
 have a1:(b.kind == 1)=false:=by rw [kb];rfl
 have a0:(b.kind == 3)=false:=by rw [kb];rfl
 have Z:(b.kind == 4)=false:=by rw [kb];rfl
 have Y:(b.kind == 5)=false:=by rw [kb];rfl
 have HR:Hid (∀ V,Below w.heap.size w V→RP la h V ia a.inds.length ca a.inds∧RP lb d V ib b.inds.length cb b.inds):=fun V hV=>⟨h1.below hV G,h2.below hV F⟩
 clear h1 h2 ha hb ka kb ho;obtain ⟨W,hW⟩:∃ W,W=(w.alloc (.cells #[.int .i64 a.kind,.int .i64 a.fn,.int .i64 a.role,.int .i64 a.above,.int .i64 a.xp,.int .i64 a.xn,.int .i64 a.yp,.int .i64 a.yn,.slice ia a.inds.length ca,.int .i64 a.a,.int .i64 a.b] 32)).alloc (.cells #[.int .i64 b.kind,.int .i64 b.fn,.int .i64 b.role,.int .i64 b.above,.int .i64 b.xp,.int .i64 b.xn,.int .i64 b.yp,.int .i64 b.yn,.slice ib b.inds.length cb,.int .i64 b.a,.int .i64 b.b] 32):=⟨_,rfl⟩;have HW:Hid (W=(w.alloc (.cells #[.int .i64 a.kind,.int .i64 a.fn,.int .i64 a.role,.int .i64 a.above,.int .i64 a.xp,.int .i64 a.xn,.int .i64 a.yp,.int .i64 a.yn,.slice ia a.inds.length ca,.int .i64 a.a,.int .i64 a.b] 32)).alloc (.cells #[.int .i64 b.kind,.int .i64 b.fn,.int .i64 b.role,.int .i64 b.above,.int .i64 b.xp,.int .i64 b.xn,.int .i64 b.yp,.int .i64 b.yn,.slice ib b.inds.length cb,.int .i64 b.a,.int .i64 b.b] 32)):=hW;have z:Below w.heap.size w W:=by rw [hW];exact ((Below.refl _ _).alloc (Nat.le_refl _) _).alloc (by simp) _
 have a8:W.heap.size=w.heap.size+2:=by rw [hW];simp
 have u:BoxK 32 W w.heap.size a.kind a.fn a.role a.above a.xp a.xn a.yp a.yn (.slice ia a.inds.length ca) a.a a.b:=by
  rw [hW];exact (BoxK.new 32 w _ _ _ _ _ _ _ _ _ _ _).below ((Below.refl _ _).alloc (Nat.le_refl _) _) (by simp)
 have t:BoxK 32 W (w.heap.size+1) b.kind b.fn b.role b.above b.xp b.xn b.yp b.yn (.slice ib b.inds.length cb) b.a b.b:=by
  rw [hW];have:=BoxK.new 32 (w.alloc (.cells #[.int .i64 a.kind,.int .i64 a.fn,.int .i64 a.role,.int .i64 a.above,.int .i64 a.xp,.int .i64 a.xn,.int .i64 a.yp,.int .i64 a.yn,.slice ia a.inds.length ca,.int .i64 a.a,.int .i64 a.b] 32)) b.kind b.fn b.role b.above b.xp b.xn b.yp b.yn (.slice ib b.inds.length cb) b.a b.b;rw [show (w.alloc (.cells #[.int .i64 a.kind,.int .i64 a.fn,.int .i64 a.role,.int .i64 a.above,.int .i64 a.xp,.int .i64 a.xn,.int .i64 a.yp,.int .i64 a.yn,.slice ia a.inds.length ca,.int .i64 a.a,.int .i64 a.b] 32)).heap.size=w.heap.size+1 from by simp] at this;exact this
 have HB:Hid (∀ V,Below W.heap.size W V→BoxK 32 V w.heap.size a.kind a.fn a.role a.above a.xp a.xn a.yp a.yn (.slice ia a.inds.length ca) a.a a.b∧BoxK 32 V (w.heap.size+1) b.kind b.fn b.role b.above b.xp b.xn b.yp b.yn (.slice ib b.inds.length cb) b.a b.b):=fun V hV=>⟨u.below hV (by omega),t.below hV (by omega)⟩
 have HF:Hid (∀ V,Below W.heap.size W V→Below w.heap.size w V):=fun V hV=>z.trans (hV.mono (by omega))
 have H0:Hid (Below W.heap.size W W):=Below.refl _ _;clear hW z u t;obtain ⟨y0,y1,y2,y3,y4,y5,y6,y7,y8,y9,A⟩:=(HB.out _ H0.out).1.cells;obtain ⟨v0,v1,v2,v3,v4,v5,v6,v7,v8,v9,D⟩:=(HB.out _ H0.out).2.cells;go_enter Try.func91, Try.ntmps91;go_upto_region 1 with fail;rw [← HW.out];go_wp2_with fail;refine (l7meet_any a9.out.1 a9.out.2 W).mono ?_;rintro e w1 ⟨rfl,E⟩;have H1:Hid (Below W.heap.size W w1):=E;unfold meetVal;have HM:=meetP_eq (a.xp,a.xn) (b.xp,b.xn);obtain ⟨⟨⟨m1,m2⟩,ok⟩,hm⟩:∃ m,m=meetR (a.xp,a.xn) (b.xp,b.xn):=⟨_,rfl⟩;rw [← hm] at HM ⊢;dsimp only;have aa:Hid (meetP (a.xp,a.xn) (b.xp,b.xn)=if ok=true then some (m1,m2) else none):=HM;obtain ⟨w2,L⟩:∃ w2,w2=w1.alloc (.cells #[.int .i64 m1,.int .i64 m2] 29):=⟨_,rfl⟩;have ag:Hid (w2=w1.alloc (.cells #[.int .i64 m1,.int .i64 m2] 29)):=L;have H2:Hid (Below W.heap.size W w2):=by rw [Hid,L];exact H1.out.alloc H1.out.size _
 have ab:Hid (BoxP 29 w2 w1.heap.size m1 m2):=by rw [Hid,L];exact BoxP.new _ w1 _ _
 clear E hm HM L y0 y1 y2 y3 y4 y5 y6 y7 y8 y9 A v0 v1 v2 v3 v4 v5 v6 v7 v8 v9 D;go_upto_region 3 with fail;rw [← ag.out];obtain ⟨y0,y1,y2,y3,y4,y5,y6,y7,y8,y9,A⟩:=(HB.out _ H2.out).1.cells;obtain ⟨v0,v1,v2,v3,v4,v5,v6,v7,v8,v9,D⟩:=(HB.out _ H2.out).2.cells;obtain ⟨p0,p1⟩:=ab.out.cells;have am:∀ V:World,(Instr.build 32 #[(4,.agg #[.int .i64 m1,.int .i64 m2])]).run Try.prog V=.ok (.agg #[.int .i64 0,.int .i64 0,.int .i64 0,.int .i64 0,.int .i64 m1,.int .i64 m2,.int .i64 0,.int .i64 0,.slice none 0 0,.int .i64 0,.int .i64 0]) V:=fun V=>run_build V _ _ _ (by kernel_rfl)
 cases ok
 · have H:Hid (o=none):=by rw [Hid,HO.out,show meetP a.x b.x=meetP (a.xp,a.xn) (b.xp,b.xn) from rfl,aa.out];rfl
   go_wp2_with fail;go_ret;exact ⟨none,0,by rw [H.out];rfl,by rw [H.out];exact RdZ.nil _ _ _,HF.out _ H2.out⟩
 have s:Hid (o=some (oneC (m1,m2))):=by rw [Hid,HO.out,show meetP a.x b.x=meetP (a.xp,a.xn) (b.xp,b.xn) from rfl,aa.out];rfl
 obtain ⟨Wz,r⟩:∃ Wz,Wz=w2.alloc (.cells #[.int .i64 0,.int .i64 0,.int .i64 0,.int .i64 0,.int .i64 m1,.int .i64 m2,.int .i64 0,.int .i64 0,.slice none 0 0,.int .i64 0,.int .i64 0] 32):=⟨_,rfl⟩;have O:Hid (Wz=w2.alloc (.cells #[.int .i64 0,.int .i64 0,.int .i64 0,.int .i64 0,.int .i64 m1,.int .i64 m2,.int .i64 0,.int .i64 0,.slice none 0 0,.int .i64 0,.int .i64 0] 32)):=r;have N:Below w2.heap.size w2 Wz:=by rw [r];exact (Below.refl _ _).alloc (Nat.le_refl _) _
 have X:Hid (Below W.heap.size W Wz):=H2.out.trans (N.mono H2.out.size);have M:Wz.heap[w2.heap.size]?=some (.cells #[.int .i64 0,.int .i64 0,.int .i64 0,.int .i64 0,.int .i64 m1,.int .i64 m2,.int .i64 0,.int .i64 0,.slice none 0 0,.int .i64 0,.int .i64 0] 32 (0,0)):=by rw [r];exact World.alloc_heap_new w2 _
 have J:w2.heap.size<Wz.heap.size:=by rw [r];simp
 have HQ:Hid (RdZ 0 Wz.heap.size Wz (some ⟨w2.heap.size,0,none⟩) 1 1 [oneC (m1,m2)]):=RdZ.bare (ia:=none) (ic:=0) rfl M J (by omega);clear r N M J;go_wp2_with fail;go_ret;rw [← O.out];exact ⟨some ⟨w2.heap.size,0,none⟩,1,by rw [s.out];rfl,by rw [s.out];exact HQ.out,HF.out _ X.out⟩
set_option maxRecDepth 100000 in
set_option maxHeartbeats 8000000 in
theorem l7one_10 (a b:CL) (ka:a.kind=1) (kb:b.kind=0) {ia ib:Option Addr} {ca cb la h lb d:Nat} {w:World} (ha:a.ok=true) (hb:b.ok=true) (h1:RP la h w ia a.inds.length ca a.inds) (h2:RP lb d w ib b.inds.length cb b.inds) (G:h≤w.heap.size) (F:d≤w.heap.size) {o:Option CL} (ho:o=(meetP a.y b.x).map (fun p=>nextC a.fn a.x p)) :
    Calls Try.prog 91 #[.agg #[.int .i64 a.kind,.int .i64 a.fn,.int .i64 a.role,.int .i64 a.above,.int .i64 a.xp,.int .i64 a.xn,.int .i64 a.yp,.int .i64 a.yn,.slice ia a.inds.length ca,.int .i64 a.a,.int .i64 a.b],.agg #[.int .i64 b.kind,.int .i64 b.fn,.int .i64 b.role,.int .i64 b.above,.int .i64 b.xp,.int .i64 b.xn,.int .i64 b.yp,.int .i64 b.yn,.slice ib b.inds.length cb,.int .i64 b.a,.int .i64 b.b]] w (QP w o.toList):=by
 have HO:Hid (o=(meetP a.y b.x).map (fun p=>nextC a.fn a.x p)):=ho;have a9:Hid (partB a.yp a.yn=true∧partB b.xp b.xn=true):=⟨ok_ypart ha (.inl ka),ok_xpart hb (.inl kb)⟩;have a7:(a.kind == 0)=false:=by rw [ka];rfl
 have a6:(a.kind == 1)=true:=by rw [ka];rfl
 have a5:(a.kind == 2)=false:=by rw [ka];rfl
 have a4:(a.kind == 5)=false:=by rw [ka];rfl
 have a3:(a.kind == 6)=false:=by rw [ka];rfl
 have a2:(b.kind == 0)=true:=by rw [kb];rfl
 have a1:(b.kind == 1)=false:=by rw [kb];rfl
 have a0:(b.kind == 3)=false:=by rw [kb];rfl
 have Z:(b.kind == 4)=false:=by rw [kb];rfl
 have Y:(b.kind == 5)=false:=by rw [kb];rfl
 have HR:Hid (∀ V,Below w.heap.size w V→RP la h V ia a.inds.length ca a.inds∧RP lb d V ib b.inds.length cb b.inds):=fun V hV=>⟨h1.below hV G,h2.below hV F⟩
 clear h1 h2 ha hb ka kb ho;obtain ⟨W,hW⟩:∃ W,W=(w.alloc (.cells #[.int .i64 a.kind,.int .i64 a.fn,.int .i64 a.role,.int .i64 a.above,.int .i64 a.xp,.int .i64 a.xn,.int .i64 a.yp,.int .i64 a.yn,.slice ia a.inds.length ca,.int .i64 a.a,.int .i64 a.b] 32)).alloc (.cells #[.int .i64 b.kind,.int .i64 b.fn,.int .i64 b.role,.int .i64 b.above,.int .i64 b.xp,.int .i64 b.xn,.int .i64 b.yp,.int .i64 b.yn,.slice ib b.inds.length cb,.int .i64 b.a,.int .i64 b.b] 32):=⟨_,rfl⟩;have HW:Hid (W=(w.alloc (.cells #[.int .i64 a.kind,.int .i64 a.fn,.int .i64 a.role,.int .i64 a.above,.int .i64 a.xp,.int .i64 a.xn,.int .i64 a.yp,.int .i64 a.yn,.slice ia a.inds.length ca,.int .i64 a.a,.int .i64 a.b] 32)).alloc (.cells #[.int .i64 b.kind,.int .i64 b.fn,.int .i64 b.role,.int .i64 b.above,.int .i64 b.xp,.int .i64 b.xn,.int .i64 b.yp,.int .i64 b.yn,.slice ib b.inds.length cb,.int .i64 b.a,.int .i64 b.b] 32)):=hW;have z:Below w.heap.size w W:=by rw [hW];exact ((Below.refl _ _).alloc (Nat.le_refl _) _).alloc (by simp) _
 have a8:W.heap.size=w.heap.size+2:=by rw [hW];simp
 have u:BoxK 32 W w.heap.size a.kind a.fn a.role a.above a.xp a.xn a.yp a.yn (.slice ia a.inds.length ca) a.a a.b:=by
  rw [hW];exact (BoxK.new 32 w _ _ _ _ _ _ _ _ _ _ _).below ((Below.refl _ _).alloc (Nat.le_refl _) _) (by simp)
 have t:BoxK 32 W (w.heap.size+1) b.kind b.fn b.role b.above b.xp b.xn b.yp b.yn (.slice ib b.inds.length cb) b.a b.b:=by
  rw [hW];have:=BoxK.new 32 (w.alloc (.cells #[.int .i64 a.kind,.int .i64 a.fn,.int .i64 a.role,.int .i64 a.above,.int .i64 a.xp,.int .i64 a.xn,.int .i64 a.yp,.int .i64 a.yn,.slice ia a.inds.length ca,.int .i64 a.a,.int .i64 a.b] 32)) b.kind b.fn b.role b.above b.xp b.xn b.yp b.yn (.slice ib b.inds.length cb) b.a b.b;rw [show (w.alloc (.cells #[.int .i64 a.kind,.int .i64 a.fn,.int .i64 a.role,.int .i64 a.above,.int .i64 a.xp,.int .i64 a.xn,.int .i64 a.yp,.int .i64 a.yn,.slice ia a.inds.length ca,.int .i64 a.a,.int .i64 a.b] 32)).heap.size=w.heap.size+1 from by simp] at this;exact this
 have HB:Hid (∀ V,Below W.heap.size W V→BoxK 32 V w.heap.size a.kind a.fn a.role a.above a.xp a.xn a.yp a.yn (.slice ia a.inds.length ca) a.a a.b∧BoxK 32 V (w.heap.size+1) b.kind b.fn b.role b.above b.xp b.xn b.yp b.yn (.slice ib b.inds.length cb) b.a b.b):=fun V hV=>⟨u.below hV (by omega),t.below hV (by omega)⟩
 have HF:Hid (∀ V,Below W.heap.size W V→Below w.heap.size w V):=fun V hV=>z.trans (hV.mono (by omega))
 have H0:Hid (Below W.heap.size W W):=Below.refl _ _;clear hW z u t;obtain ⟨y0,y1,y2,y3,y4,y5,y6,y7,y8,y9,A⟩:=(HB.out _ H0.out).1.cells;obtain ⟨v0,v1,v2,v3,v4,v5,v6,v7,v8,v9,D⟩:=(HB.out _ H0.out).2.cells;go_enter Try.func91, Try.ntmps91;go_upto_region 1 with fail;rw [← HW.out];go_wp2_with fail;refine (l7meet_any a9.out.1 a9.out.2 W).mono ?_;rintro e w1 ⟨rfl,E⟩;have H1:Hid (Below W.heap.size W w1):=E;unfold meetVal;have HM:=meetP_eq (a.yp,a.yn) (b.xp,b.xn);obtain ⟨⟨⟨m1,m2⟩,ok⟩,hm⟩:∃ m,m=meetR (a.yp,a.yn) (b.xp,b.xn):=⟨_,rfl⟩;rw [← hm] at HM ⊢;dsimp only;have aa:Hid (meetP (a.yp,a.yn) (b.xp,b.xn)=if ok=true then some (m1,m2) else none):=HM;obtain ⟨w2,L⟩:∃ w2,w2=w1.alloc (.cells #[.int .i64 m1,.int .i64 m2] 29):=⟨_,rfl⟩;have ag:Hid (w2=w1.alloc (.cells #[.int .i64 m1,.int .i64 m2] 29)):=L;have H2:Hid (Below W.heap.size W w2):=by rw [Hid,L];exact H1.out.alloc H1.out.size _
 have ab:Hid (BoxP 29 w2 w1.heap.size m1 m2):=by rw [Hid,L];exact BoxP.new _ w1 _ _
 clear E hm HM L y0 y1 y2 y3 y4 y5 y6 y7 y8 y9 A v0 v1 v2 v3 v4 v5 v6 v7 v8 v9 D;go_upto_region 7 with fail;rw [← ag.out];obtain ⟨y0,y1,y2,y3,y4,y5,y6,y7,y8,y9,A⟩:=(HB.out _ H2.out).1.cells;obtain ⟨v0,v1,v2,v3,v4,v5,v6,v7,v8,v9,D⟩:=(HB.out _ H2.out).2.cells;obtain ⟨p0,p1⟩:=ab.out.cells;cases ok
 · have H:Hid (o=none):=by rw [Hid,HO.out,show meetP a.y b.x=meetP (a.yp,a.yn) (b.xp,b.xn) from rfl,aa.out];rfl
   go_wp2_with fail;go_ret;exact ⟨none,0,by rw [H.out];rfl,by rw [H.out];exact RdZ.nil _ _ _,HF.out _ H2.out⟩
 have I:Hid (o=some (nextC a.fn (a.xp,a.xn) (m1,m2))):=by rw [Hid,HO.out,show meetP a.y b.x=meetP (a.yp,a.yn) (b.xp,b.xn) from rfl,aa.out];rfl
 obtain ⟨⟨n0,n1,n2,n3,n4,n5,n6,n7,ni,n8,n9⟩,hc⟩:∃ c,c=nextC a.fn (a.xp,a.xn) (m1,m2):=⟨_,rfl⟩
 have ac:ni=[]:=by
  have:=congrArg CL.inds hc;dsimp only at this;rw [this,nextC]
  split <;> rfl
 subst ac;have HC:Hid (nextC a.fn (a.xp,a.xn) (m1,m2)=(⟨n0,n1,n2,n3,n4,n5,n6,n7,[],n8,n9⟩:CL)):=hc.symm
 have ah:Hid (∀ V,Calls Try.prog 102 #[.int .i64 a.fn,.agg #[.int .i64 a.xp,.int .i64 a.xn],.agg #[.int .i64 m1,.int .i64 m2]] V fun e w'=>e=.returned (.agg #[.int .i64 n0,.int .i64 n1,.int .i64 n2,.int .i64 n3,.int .i64 n4,.int .i64 n5,.int .i64 n6,.int .i64 n7,.slice none 0 0,.int .i64 n8,.int .i64 n9])∧Below V.heap.size V w'):=fun V=>by
  have:=l7next_any a.fn a.xp a.xn m1 m2 V;rw [← hc] at this;exact this
 clear hc;have s:Hid (o=some (⟨n0,n1,n2,n3,n4,n5,n6,n7,[],n8,n9⟩:CL)):=by rw [Hid,I.out,HC.out]
 go_wp2_with fail;refine (ah.out w2).mono ?_;rintro e w3 ⟨rfl,an⟩;have H3:Hid (Below W.heap.size W w3):=H2.out.trans (an.mono H2.out.size);clear an;obtain ⟨Wz,r⟩:∃ Wz,Wz=w3.alloc (.cells #[.int .i64 n0,.int .i64 n1,.int .i64 n2,.int .i64 n3,.int .i64 n4,.int .i64 n5,.int .i64 n6,.int .i64 n7,.slice none 0 0,.int .i64 n8,.int .i64 n9] 32):=⟨_,rfl⟩;have O:Hid (Wz=w3.alloc (.cells #[.int .i64 n0,.int .i64 n1,.int .i64 n2,.int .i64 n3,.int .i64 n4,.int .i64 n5,.int .i64 n6,.int .i64 n7,.slice none 0 0,.int .i64 n8,.int .i64 n9] 32)):=r;have N:Below w3.heap.size w3 Wz:=by rw [r];exact (Below.refl _ _).alloc (Nat.le_refl _) _
 have X:Hid (Below W.heap.size W Wz):=H3.out.trans (N.mono H3.out.size);have M:Wz.heap[w3.heap.size]?=some (.cells #[.int .i64 n0,.int .i64 n1,.int .i64 n2,.int .i64 n3,.int .i64 n4,.int .i64 n5,.int .i64 n6,.int .i64 n7,.slice none 0 0,.int .i64 n8,.int .i64 n9] 32 (0,0)):=by rw [r];exact World.alloc_heap_new w3 _
 have J:w3.heap.size<Wz.heap.size:=by rw [r];simp
 have HQ:Hid (RdZ 0 Wz.heap.size Wz (some ⟨w3.heap.size,0,none⟩) 1 1 [(⟨n0,n1,n2,n3,n4,n5,n6,n7,[],n8,n9⟩:CL)]):=RdZ.bare (ia:=none) (ic:=0) rfl M J (by omega);clear r N M J;go_wp2_with fail;go_ret;rw [← O.out];exact ⟨some ⟨w3.heap.size,0,none⟩,1,by rw [s.out];rfl,by rw [s.out];exact HQ.out,HF.out _ X.out⟩
set_option maxRecDepth 100000 in
set_option maxHeartbeats 8000000 in
theorem l7one_11 (a b:CL) (ka:a.kind=1) (kb:b.kind=1) {ia ib:Option Addr} {ca cb la h lb d:Nat} {w:World} (ha:a.ok=true) (hb:b.ok=true) (h1:RP la h w ia a.inds.length ca a.inds) (h2:RP lb d w ib b.inds.length cb b.inds) (G:h≤w.heap.size) (F:d≤w.heap.size) {o:Option CL} (ho:o=if a.fn=b.fn then (meetP a.y b.y).map (fun p=>nextC a.fn (joinP a.x b.x) p) else none) :
    Calls Try.prog 91 #[.agg #[.int .i64 a.kind,.int .i64 a.fn,.int .i64 a.role,.int .i64 a.above,.int .i64 a.xp,.int .i64 a.xn,.int .i64 a.yp,.int .i64 a.yn,.slice ia a.inds.length ca,.int .i64 a.a,.int .i64 a.b],.agg #[.int .i64 b.kind,.int .i64 b.fn,.int .i64 b.role,.int .i64 b.above,.int .i64 b.xp,.int .i64 b.xn,.int .i64 b.yp,.int .i64 b.yn,.slice ib b.inds.length cb,.int .i64 b.a,.int .i64 b.b]] w (QP w o.toList):=by
 have HO:Hid (o=if a.fn=b.fn then (meetP a.y b.y).map (fun p=>nextC a.fn (joinP a.x b.x) p) else none):=ho;have a9:Hid (partB a.yp a.yn=true∧partB b.yp b.yn=true):=⟨ok_ypart ha (.inl ka),ok_ypart hb (.inl kb)⟩;have a7:(a.kind == 0)=false:=by rw [ka];rfl
 have a6:(a.kind == 1)=true:=by rw [ka];rfl
 have a5:(a.kind == 2)=false:=by rw [ka];rfl
 have a4:(a.kind == 5)=false:=by rw [ka];rfl
 have a3:(a.kind == 6)=false:=by rw [ka];rfl
 have a2:(b.kind == 0)=false:=by rw [kb];rfl
 have a1:(b.kind == 1)=true:=by rw [kb];rfl
 have a0:(b.kind == 3)=false:=by rw [kb];rfl
 have Z:(b.kind == 4)=false:=by rw [kb];rfl
 have Y:(b.kind == 5)=false:=by rw [kb];rfl
 have HR:Hid (∀ V,Below w.heap.size w V→RP la h V ia a.inds.length ca a.inds∧RP lb d V ib b.inds.length cb b.inds):=fun V hV=>⟨h1.below hV G,h2.below hV F⟩
 clear h1 h2 ha hb ka kb ho;obtain ⟨W,hW⟩:∃ W,W=(w.alloc (.cells #[.int .i64 a.kind,.int .i64 a.fn,.int .i64 a.role,.int .i64 a.above,.int .i64 a.xp,.int .i64 a.xn,.int .i64 a.yp,.int .i64 a.yn,.slice ia a.inds.length ca,.int .i64 a.a,.int .i64 a.b] 32)).alloc (.cells #[.int .i64 b.kind,.int .i64 b.fn,.int .i64 b.role,.int .i64 b.above,.int .i64 b.xp,.int .i64 b.xn,.int .i64 b.yp,.int .i64 b.yn,.slice ib b.inds.length cb,.int .i64 b.a,.int .i64 b.b] 32):=⟨_,rfl⟩;have HW:Hid (W=(w.alloc (.cells #[.int .i64 a.kind,.int .i64 a.fn,.int .i64 a.role,.int .i64 a.above,.int .i64 a.xp,.int .i64 a.xn,.int .i64 a.yp,.int .i64 a.yn,.slice ia a.inds.length ca,.int .i64 a.a,.int .i64 a.b] 32)).alloc (.cells #[.int .i64 b.kind,.int .i64 b.fn,.int .i64 b.role,.int .i64 b.above,.int .i64 b.xp,.int .i64 b.xn,.int .i64 b.yp,.int .i64 b.yn,.slice ib b.inds.length cb,.int .i64 b.a,.int .i64 b.b] 32)):=hW;have z:Below w.heap.size w W:=by rw [hW];exact ((Below.refl _ _).alloc (Nat.le_refl _) _).alloc (by simp) _
 have a8:W.heap.size=w.heap.size+2:=by rw [hW];simp
 have u:BoxK 32 W w.heap.size a.kind a.fn a.role a.above a.xp a.xn a.yp a.yn (.slice ia a.inds.length ca) a.a a.b:=by
  rw [hW];exact (BoxK.new 32 w _ _ _ _ _ _ _ _ _ _ _).below ((Below.refl _ _).alloc (Nat.le_refl _) _) (by simp)
 have t:BoxK 32 W (w.heap.size+1) b.kind b.fn b.role b.above b.xp b.xn b.yp b.yn (.slice ib b.inds.length cb) b.a b.b:=by
  rw [hW];have:=BoxK.new 32 (w.alloc (.cells #[.int .i64 a.kind,.int .i64 a.fn,.int .i64 a.role,.int .i64 a.above,.int .i64 a.xp,.int .i64 a.xn,.int .i64 a.yp,.int .i64 a.yn,.slice ia a.inds.length ca,.int .i64 a.a,.int .i64 a.b] 32)) b.kind b.fn b.role b.above b.xp b.xn b.yp b.yn (.slice ib b.inds.length cb) b.a b.b;rw [show (w.alloc (.cells #[.int .i64 a.kind,.int .i64 a.fn,.int .i64 a.role,.int .i64 a.above,.int .i64 a.xp,.int .i64 a.xn,.int .i64 a.yp,.int .i64 a.yn,.slice ia a.inds.length ca,.int .i64 a.a,.int .i64 a.b] 32)).heap.size=w.heap.size+1 from by simp] at this;exact this
 have HB:Hid (∀ V,Below W.heap.size W V→BoxK 32 V w.heap.size a.kind a.fn a.role a.above a.xp a.xn a.yp a.yn (.slice ia a.inds.length ca) a.a a.b∧BoxK 32 V (w.heap.size+1) b.kind b.fn b.role b.above b.xp b.xn b.yp b.yn (.slice ib b.inds.length cb) b.a b.b):=fun V hV=>⟨u.below hV (by omega),t.below hV (by omega)⟩
 have HF:Hid (∀ V,Below W.heap.size W V→Below w.heap.size w V):=fun V hV=>z.trans (hV.mono (by omega))
 have H0:Hid (Below W.heap.size W W):=Below.refl _ _;clear hW z u t;obtain ⟨y0,y1,y2,y3,y4,y5,y6,y7,y8,y9,A⟩:=(HB.out _ H0.out).1.cells;obtain ⟨v0,v1,v2,v3,v4,v5,v6,v7,v8,v9,D⟩:=(HB.out _ H0.out).2.cells;go_enter Try.func91, Try.ntmps91;go_upto_region 1 with fail;rw [← HW.out];by_cases hf:a.fn=b.fn
 · have ap:Hid (o=(meetP a.y b.y).map (fun p=>nextC a.fn (joinP a.x b.x) p)):=by rw [Hid,HO.out,if_pos hf]
   have ad:(a.fn == b.fn)=true:=by simpa using hf
   clear hf;go_wp2_with fail;refine (l7meet_any a9.out.1 a9.out.2 W).mono ?_;rintro e w1 ⟨rfl,E⟩;have H1:Hid (Below W.heap.size W w1):=E;unfold meetVal;have HM:=meetP_eq (a.yp,a.yn) (b.yp,b.yn);obtain ⟨⟨⟨m1,m2⟩,ok⟩,hm⟩:∃ m,m=meetR (a.yp,a.yn) (b.yp,b.yn):=⟨_,rfl⟩;rw [← hm] at HM ⊢;dsimp only;have aa:Hid (meetP (a.yp,a.yn) (b.yp,b.yn)=if ok=true then some (m1,m2) else none):=HM;obtain ⟨w2,L⟩:∃ w2,w2=w1.alloc (.cells #[.int .i64 m1,.int .i64 m2] 29):=⟨_,rfl⟩;have ag:Hid (w2=w1.alloc (.cells #[.int .i64 m1,.int .i64 m2] 29)):=L;have H2:Hid (Below W.heap.size W w2):=by rw [Hid,L];exact H1.out.alloc H1.out.size _
   have ab:Hid (BoxP 29 w2 w1.heap.size m1 m2):=by rw [Hid,L];exact BoxP.new _ w1 _ _
   clear E hm HM L y0 y1 y2 y3 y4 y5 y6 y7 y8 y9 A v0 v1 v2 v3 v4 v5 v6 v7 v8 v9 D;go_upto_region 11 with fail;rw [← ag.out];obtain ⟨y0,y1,y2,y3,y4,y5,y6,y7,y8,y9,A⟩:=(HB.out _ H2.out).1.cells;obtain ⟨v0,v1,v2,v3,v4,v5,v6,v7,v8,v9,D⟩:=(HB.out _ H2.out).2.cells;obtain ⟨p0,p1⟩:=ab.out.cells;cases ok
   · have H:Hid (o=none):=by rw [Hid,ap.out,show meetP a.y b.y=meetP (a.yp,a.yn) (b.yp,b.yn) from rfl,aa.out];rfl
     go_wp2_with fail;go_ret;exact ⟨none,0,by rw [H.out];rfl,by rw [H.out];exact RdZ.nil _ _ _,HF.out _ H2.out⟩
   have I:Hid (o=some (nextC a.fn ((bits .or .i64 a.xp b.xp),(bits .or .i64 a.xn b.xn)) (m1,m2))):=by rw [Hid,ap.out,show meetP a.y b.y=meetP (a.yp,a.yn) (b.yp,b.yn) from rfl,aa.out];rfl
   obtain ⟨⟨n0,n1,n2,n3,n4,n5,n6,n7,ni,n8,n9⟩,hc⟩:∃ c,c=nextC a.fn ((bits .or .i64 a.xp b.xp),(bits .or .i64 a.xn b.xn)) (m1,m2):=⟨_,rfl⟩
   have ac:ni=[]:=by
    have:=congrArg CL.inds hc;dsimp only at this;rw [this,nextC]
    split <;> rfl
   subst ac;have HC:Hid (nextC a.fn ((bits .or .i64 a.xp b.xp),(bits .or .i64 a.xn b.xn)) (m1,m2)=(⟨n0,n1,n2,n3,n4,n5,n6,n7,[],n8,n9⟩:CL)):=hc.symm
   have ah:Hid (∀ V,Calls Try.prog 102 #[.int .i64 a.fn,.agg #[.int .i64 (bits .or .i64 a.xp b.xp),.int .i64 (bits .or .i64 a.xn b.xn)],.agg #[.int .i64 m1,.int .i64 m2]] V fun e w'=>e=.returned (.agg #[.int .i64 n0,.int .i64 n1,.int .i64 n2,.int .i64 n3,.int .i64 n4,.int .i64 n5,.int .i64 n6,.int .i64 n7,.slice none 0 0,.int .i64 n8,.int .i64 n9])∧Below V.heap.size V w'):=fun V=>by
    have:=l7next_any a.fn (bits .or .i64 a.xp b.xp) (bits .or .i64 a.xn b.xn) m1 m2 V;rw [← hc] at this;exact this
   clear hc;have s:Hid (o=some (⟨n0,n1,n2,n3,n4,n5,n6,n7,[],n8,n9⟩:CL)):=by rw [Hid,I.out,HC.out]
   go_upto_region 12 with fail;clear p0 p1 y0 y1 y2 y3 y4 y5 y6 y7 y8 y9 A v0 v1 v2 v3 v4 v5 v6 v7 v8 v9 D
   have R:Hid (∀ V,Below w2.heap.size w2 V→V.cell? ⟨w.heap.size,1,none⟩=some (.int .i64 a.fn)∧V.cell? ⟨w.heap.size,4,none⟩=some (.int .i64 a.xp)∧V.cell? ⟨w.heap.size,5,none⟩=some (.int .i64 a.xn)∧V.cell? ⟨w.heap.size+1,4,none⟩=some (.int .i64 b.xp)∧V.cell? ⟨w.heap.size+1,5,none⟩=some (.int .i64 b.xn)∧V.cell? ⟨w1.heap.size,0,none⟩=some (.int .i64 m1)∧V.cell? ⟨w1.heap.size,1,none⟩=some (.int .i64 m2)):=fun V hV=>by
    have ae:Below W.heap.size W V:=H2.out.trans (hV.mono H2.out.size);have q1:=(HB.out V ae).1.cells;have q2:=(HB.out V ae).2.cells;have q3:=(ab.out.below hV ab.out.lt).cells;exact ⟨q1.2.1,q1.2.2.2.2.1,q1.2.2.2.2.2.1,q2.2.2.2.2.1,q2.2.2.2.2.2.1,q3.1,q3.2⟩
   have Hd:Below w2.heap.size w2 w2.drew:=(Below.refl _ _).drew;refine wp_region_held_drew (S:=(fun V=>V.cell? ⟨w.heap.size,1,none⟩=some (.int .i64 a.fn)∧V.cell? ⟨w.heap.size,4,none⟩=some (.int .i64 a.xp)∧V.cell? ⟨w.heap.size,5,none⟩=some (.int .i64 a.xn)∧V.cell? ⟨w.heap.size+1,4,none⟩=some (.int .i64 b.xp)∧V.cell? ⟨w.heap.size+1,5,none⟩=some (.int .i64 b.xn)∧V.cell? ⟨w1.heap.size,0,none⟩=some (.int .i64 m1)∧V.cell? ⟨w1.heap.size,1,none⟩=some (.int .i64 m2))) (by kernel_rfl) ?_ (fun hHeld=>?_)
   · (try dsimp only)
     with_reducible exact R.out _ Hd
   refine takeR (i:=0) (v:=?_) rfl (by kernel_rfl) ?_ (by assumption) ?_;rotate_left
   · intro w hSw;(try dsimp only at hSw);go_simp;(try with_reducible rfl)
   (try simp only [List.getElem_toArray]);(try simp only [List.getElem_cons_succ]);(try simp only [List.getElem_cons_zero]);(try simp only [Act.put]);(try simp only [List.setIfInBounds_toArray]);(try simp only [List.set_cons_succ]);(try simp only [List.set_cons_zero]);refine takeR (i:=1) (v:=?_) rfl (by kernel_rfl) ?_ (by assumption) ?_;rotate_left
   · intro w hSw;(try dsimp only at hSw);go_simp;(try with_reducible rfl)
   (try simp only [List.getElem_toArray]);(try simp only [List.getElem_cons_succ]);(try simp only [List.getElem_cons_zero]);(try simp only [Act.put]);(try simp only [List.setIfInBounds_toArray]);(try simp only [List.set_cons_succ]);(try simp only [List.set_cons_zero]);refine takeR (i:=2) (v:=?_) rfl (by kernel_rfl) ?_ (by assumption) ?_;rotate_left
   · intro w hSw;(try dsimp only at hSw);go_simp;(try with_reducible rfl)
   (try simp only [List.getElem_toArray]);(try simp only [List.getElem_cons_succ]);(try simp only [List.getElem_cons_zero]);(try simp only [Act.put]);(try simp only [List.setIfInBounds_toArray]);(try simp only [List.set_cons_succ]);(try simp only [List.set_cons_zero]);refine takeR (i:=3) (v:=?_) rfl (by kernel_rfl) ?_ (by assumption) ?_;rotate_left
   · intro w hSw;(try dsimp only at hSw);go_simp;(try with_reducible rfl)
   (try simp only [List.getElem_toArray]);(try simp only [List.getElem_cons_succ]);(try simp only [List.getElem_cons_zero]);(try simp only [Act.put]);(try simp only [List.setIfInBounds_toArray]);(try simp only [List.set_cons_succ]);(try simp only [List.set_cons_zero]);refine takeR (i:=4) (v:=?_) rfl (by kernel_rfl) ?_ (by assumption) ?_;rotate_left
   · intro w hSw;(try dsimp only at hSw);go_simp;(try with_reducible rfl)
   (try simp only [List.getElem_toArray]);(try simp only [List.getElem_cons_succ]);(try simp only [List.getElem_cons_zero]);(try simp only [Act.put]);(try simp only [List.setIfInBounds_toArray]);(try simp only [List.set_cons_succ]);(try simp only [List.set_cons_zero]);refine takeR (i:=5) (v:=?_) rfl (by kernel_rfl) ?_ (by assumption) ?_;rotate_left
   · intro w hSw;(try dsimp only at hSw);go_simp;(try with_reducible rfl)
   (try simp only [List.getElem_toArray]);(try simp only [List.getElem_cons_succ]);(try simp only [List.getElem_cons_zero]);(try simp only [Act.put]);(try simp only [List.setIfInBounds_toArray]);(try simp only [List.set_cons_succ]);(try simp only [List.set_cons_zero]);refine takeR (i:=7) (v:=?_) rfl (by kernel_rfl) ?_ (by assumption) ?_;rotate_left
   · intro w hSw;(try dsimp only at hSw);go_simp;(try with_reducible rfl)
   (try simp only [List.getElem_toArray]);(try simp only [List.getElem_cons_succ]);(try simp only [List.getElem_cons_zero]);(try simp only [Act.put]);(try simp only [List.setIfInBounds_toArray]);(try simp only [List.set_cons_succ]);(try simp only [List.set_cons_zero]);refine wpAnyH_ready (rs:=[6]) (by kernel_rfl) (by simp) ?_;refine AllReadyH.cons rfl (fun K hK=>?_) AllReadyH.nil;go_simp;go_wp2_with (go_at_call 103;refine (l7join_any a.xp a.xn b.xp b.xn _).mono ?_;rintro e wj ⟨rfl,hb⟩;have al:Hid (Below w2.drew.heap.size w2.drew wj):=hb;clear hb);have Hj:Hid (Below w2.heap.size w2 wj):=Hd.trans (al.out.mono Hd.size);refine hK.out _ _ ?_ (fun hHeld=>?_)
   · (try dsimp only)
     with_reducible exact R.out _ Hj.out
   clear hK K;(try simp only [List.getElem_toArray]);(try simp only [List.getElem_cons_succ]);(try simp only [List.getElem_cons_zero]);(try simp only [Act.put]);(try simp only [List.setIfInBounds_toArray]);(try simp only [List.set_cons_succ]);(try simp only [List.set_cons_zero]);refine wpAnyH_ready (rs:=[8]) (by kernel_rfl) (by simp) ?_;refine AllReadyH.cons rfl (fun K hK=>?_) AllReadyH.nil;go_simp;go_wp2_with (go_at_call 102;refine (ah.out _).mono ?_;rintro e wn ⟨rfl,hb⟩;have ak:Hid (Below wj.heap.size wj wn):=hb;clear hb);have Hn:Hid (Below w2.heap.size w2 wn):=Hj.out.trans (ak.out.mono Hj.out.size);have af:Hid (Below W.heap.size W wn):=H2.out.trans (Hn.out.mono H2.out.size);refine hK.out _ _ ?_ (fun hHeld=>?_)
   · (try dsimp only)
     with_reducible exact R.out _ Hn.out
   clear hK K;(try simp only [List.getElem_toArray]);(try simp only [List.getElem_cons_succ]);(try simp only [List.getElem_cons_zero]);(try simp only [Act.put]);(try simp only [List.setIfInBounds_toArray]);(try simp only [List.set_cons_succ]);(try simp only [List.set_cons_zero]);obtain ⟨Wz,r⟩:∃ Wz,Wz=wn.alloc (.cells #[.int .i64 n0,.int .i64 n1,.int .i64 n2,.int .i64 n3,.int .i64 n4,.int .i64 n5,.int .i64 n6,.int .i64 n7,.slice none 0 0,.int .i64 n8,.int .i64 n9] 32):=⟨_,rfl⟩;have O:Hid (Wz=wn.alloc (.cells #[.int .i64 n0,.int .i64 n1,.int .i64 n2,.int .i64 n3,.int .i64 n4,.int .i64 n5,.int .i64 n6,.int .i64 n7,.slice none 0 0,.int .i64 n8,.int .i64 n9] 32)):=r;have N:Below wn.heap.size wn Wz:=by rw [r];exact (Below.refl _ _).alloc (Nat.le_refl _) _
   have X:Hid (Below W.heap.size W Wz):=af.out.trans (N.mono af.out.size);have M:Wz.heap[wn.heap.size]?=some (.cells #[.int .i64 n0,.int .i64 n1,.int .i64 n2,.int .i64 n3,.int .i64 n4,.int .i64 n5,.int .i64 n6,.int .i64 n7,.slice none 0 0,.int .i64 n8,.int .i64 n9] 32 (0,0)):=by rw [r];exact World.alloc_heap_new wn _
   have J:wn.heap.size<Wz.heap.size:=by rw [r];simp
   have HQ:Hid (RdZ 0 Wz.heap.size Wz (some ⟨wn.heap.size,0,none⟩) 1 1 [(⟨n0,n1,n2,n3,n4,n5,n6,n7,[],n8,n9⟩:CL)]):=RdZ.bare (ia:=none) (ic:=0) rfl M J (by omega);clear r N M J;have aj:Hid (Below w2.heap.size w2 Wz):=by rw [Hid,O.out];exact Hn.out.alloc Hn.out.size _
   refine wpAnyH_ready (rs:=[9]) (by kernel_rfl) (by simp) ?_;refine AllReadyH.cons rfl (fun K hK=>?_) AllReadyH.nil;go_simp;rw [← O.out];refine hK.out _ _ ?_ (fun hHeld=>?_)
   · (try dsimp only)
     with_reducible exact R.out _ aj.out
   clear hK K;(try simp only [List.getElem_toArray]);(try simp only [List.getElem_cons_succ]);(try simp only [List.getElem_cons_zero]);(try simp only [Act.put]);(try simp only [List.setIfInBounds_toArray]);(try simp only [List.set_cons_succ]);(try simp only [List.set_cons_zero]);refine takeR (i:=10) (v:=?_) rfl (by kernel_rfl) ?_ (by assumption) ?_;rotate_left
   · intro w hSw;(try dsimp only at hSw);go_simp;(try with_reducible rfl)
   (try simp only [List.getElem_toArray]);(try simp only [List.getElem_cons_succ]);(try simp only [List.getElem_cons_zero]);(try simp only [Act.put]);(try simp only [List.setIfInBounds_toArray]);(try simp only [List.set_cons_succ]);(try simp only [List.set_cons_zero]);refine wpAnyH_done (by kernel_rfl) ?_ _;clear hHeld R Hd;go_wp2_with fail;go_ret;exact ⟨some ⟨wn.heap.size,0,none⟩,1,by rw [s.out];rfl,by rw [s.out];exact HQ.out,HF.out _ X.out⟩
 have H:Hid (o=none):=by rw [Hid,HO.out,if_neg hf]
 have ad:(a.fn == b.fn)=false:=by simpa using hf
 clear hf;go_wp2_with fail;go_ret;exact ⟨none,0,by rw [H.out];rfl,by rw [H.out];exact RdZ.nil _ _ _,HF.out _ H0.out⟩
set_option maxRecDepth 100000 in
set_option maxHeartbeats 8000000 in
theorem l7one_23 (a b:CL) (ka:a.kind=2) (kb:b.kind=3) {ia ib:Option Addr} {ca cb la h lb d:Nat} {w:World} (ha:a.ok=true) (hb:b.ok=true) (h1:RP la h w ia a.inds.length ca a.inds) (h2:RP lb d w ib b.inds.length cb b.inds) (G:h≤w.heap.size) (F:d≤w.heap.size) {o:Option CL} (ho:o=if a.role=b.role then some (nextC a.fn (joinP a.x b.x) b.y) else none) :
    Calls Try.prog 91 #[.agg #[.int .i64 a.kind,.int .i64 a.fn,.int .i64 a.role,.int .i64 a.above,.int .i64 a.xp,.int .i64 a.xn,.int .i64 a.yp,.int .i64 a.yn,.slice ia a.inds.length ca,.int .i64 a.a,.int .i64 a.b],.agg #[.int .i64 b.kind,.int .i64 b.fn,.int .i64 b.role,.int .i64 b.above,.int .i64 b.xp,.int .i64 b.xn,.int .i64 b.yp,.int .i64 b.yn,.slice ib b.inds.length cb,.int .i64 b.a,.int .i64 b.b]] w (QP w o.toList):=by
 have HO:Hid (o=if a.role=b.role then some (nextC a.fn (joinP a.x b.x) b.y) else none):=ho;have a7:(a.kind == 0)=false:=by rw [ka];rfl
 have a6:(a.kind == 1)=false:=by rw [ka];rfl
 have a5:(a.kind == 2)=true:=by rw [ka];rfl
 have a4:(a.kind == 5)=false:=by rw [ka];rfl
 have a3:(a.kind == 6)=false:=by rw [ka];rfl
 have a2:(b.kind == 0)=false:=by rw [kb];rfl
 have a1:(b.kind == 1)=false:=by rw [kb];rfl
 have a0:(b.kind == 3)=true:=by rw [kb];rfl
 have Z:(b.kind == 4)=false:=by rw [kb];rfl
 have Y:(b.kind == 5)=false:=by rw [kb];rfl
 have HR:Hid (∀ V,Below w.heap.size w V→RP la h V ia a.inds.length ca a.inds∧RP lb d V ib b.inds.length cb b.inds):=fun V hV=>⟨h1.below hV G,h2.below hV F⟩
 clear h1 h2 ha hb ka kb ho;obtain ⟨W,hW⟩:∃ W,W=(w.alloc (.cells #[.int .i64 a.kind,.int .i64 a.fn,.int .i64 a.role,.int .i64 a.above,.int .i64 a.xp,.int .i64 a.xn,.int .i64 a.yp,.int .i64 a.yn,.slice ia a.inds.length ca,.int .i64 a.a,.int .i64 a.b] 32)).alloc (.cells #[.int .i64 b.kind,.int .i64 b.fn,.int .i64 b.role,.int .i64 b.above,.int .i64 b.xp,.int .i64 b.xn,.int .i64 b.yp,.int .i64 b.yn,.slice ib b.inds.length cb,.int .i64 b.a,.int .i64 b.b] 32):=⟨_,rfl⟩;have HW:Hid (W=(w.alloc (.cells #[.int .i64 a.kind,.int .i64 a.fn,.int .i64 a.role,.int .i64 a.above,.int .i64 a.xp,.int .i64 a.xn,.int .i64 a.yp,.int .i64 a.yn,.slice ia a.inds.length ca,.int .i64 a.a,.int .i64 a.b] 32)).alloc (.cells #[.int .i64 b.kind,.int .i64 b.fn,.int .i64 b.role,.int .i64 b.above,.int .i64 b.xp,.int .i64 b.xn,.int .i64 b.yp,.int .i64 b.yn,.slice ib b.inds.length cb,.int .i64 b.a,.int .i64 b.b] 32)):=hW;have z:Below w.heap.size w W:=by rw [hW];exact ((Below.refl _ _).alloc (Nat.le_refl _) _).alloc (by simp) _
 have a8:W.heap.size=w.heap.size+2:=by rw [hW];simp
 have u:BoxK 32 W w.heap.size a.kind a.fn a.role a.above a.xp a.xn a.yp a.yn (.slice ia a.inds.length ca) a.a a.b:=by
  rw [hW];exact (BoxK.new 32 w _ _ _ _ _ _ _ _ _ _ _).below ((Below.refl _ _).alloc (Nat.le_refl _) _) (by simp)
 have t:BoxK 32 W (w.heap.size+1) b.kind b.fn b.role b.above b.xp b.xn b.yp b.yn (.slice ib b.inds.length cb) b.a b.b:=by
  rw [hW];have:=BoxK.new 32 (w.alloc (.cells #[.int .i64 a.kind,.int .i64 a.fn,.int .i64 a.role,.int .i64 a.above,.int .i64 a.xp,.int .i64 a.xn,.int .i64 a.yp,.int .i64 a.yn,.slice ia a.inds.length ca,.int .i64 a.a,.int .i64 a.b] 32)) b.kind b.fn b.role b.above b.xp b.xn b.yp b.yn (.slice ib b.inds.length cb) b.a b.b;rw [show (w.alloc (.cells #[.int .i64 a.kind,.int .i64 a.fn,.int .i64 a.role,.int .i64 a.above,.int .i64 a.xp,.int .i64 a.xn,.int .i64 a.yp,.int .i64 a.yn,.slice ia a.inds.length ca,.int .i64 a.a,.int .i64 a.b] 32)).heap.size=w.heap.size+1 from by simp] at this;exact this
 have HB:Hid (∀ V,Below W.heap.size W V→BoxK 32 V w.heap.size a.kind a.fn a.role a.above a.xp a.xn a.yp a.yn (.slice ia a.inds.length ca) a.a a.b∧BoxK 32 V (w.heap.size+1) b.kind b.fn b.role b.above b.xp b.xn b.yp b.yn (.slice ib b.inds.length cb) b.a b.b):=fun V hV=>⟨u.below hV (by omega),t.below hV (by omega)⟩
 have HF:Hid (∀ V,Below W.heap.size W V→Below w.heap.size w V):=fun V hV=>z.trans (hV.mono (by omega))
 have H0:Hid (Below W.heap.size W W):=Below.refl _ _;clear hW z u t;obtain ⟨y0,y1,y2,y3,y4,y5,y6,y7,y8,y9,A⟩:=(HB.out _ H0.out).1.cells;obtain ⟨v0,v1,v2,v3,v4,v5,v6,v7,v8,v9,D⟩:=(HB.out _ H0.out).2.cells;go_enter Try.func91, Try.ntmps91;go_upto_region 1 with fail;rw [← HW.out];by_cases hf:a.role=b.role
 · have I:Hid (o=some (nextC a.fn ((bits .or .i64 a.xp b.xp),(bits .or .i64 a.xn b.xn)) (b.yp,b.yn))):=by rw [Hid,HO.out,if_pos hf];rfl
   have ad:(a.role == b.role)=true:=by simpa using hf
   clear hf;obtain ⟨⟨n0,n1,n2,n3,n4,n5,n6,n7,ni,n8,n9⟩,hc⟩:∃ c,c=nextC a.fn ((bits .or .i64 a.xp b.xp),(bits .or .i64 a.xn b.xn)) (b.yp,b.yn):=⟨_,rfl⟩
   have ac:ni=[]:=by
    have:=congrArg CL.inds hc;dsimp only at this;rw [this,nextC]
    split <;> rfl
   subst ac;have HC:Hid (nextC a.fn ((bits .or .i64 a.xp b.xp),(bits .or .i64 a.xn b.xn)) (b.yp,b.yn)=(⟨n0,n1,n2,n3,n4,n5,n6,n7,[],n8,n9⟩:CL)):=hc.symm
   have ah:Hid (∀ V,Calls Try.prog 102 #[.int .i64 a.fn,.agg #[.int .i64 (bits .or .i64 a.xp b.xp),.int .i64 (bits .or .i64 a.xn b.xn)],.agg #[.int .i64 b.yp,.int .i64 b.yn]] V fun e w'=>e=.returned (.agg #[.int .i64 n0,.int .i64 n1,.int .i64 n2,.int .i64 n3,.int .i64 n4,.int .i64 n5,.int .i64 n6,.int .i64 n7,.slice none 0 0,.int .i64 n8,.int .i64 n9])∧Below V.heap.size V w'):=fun V=>by
    have:=l7next_any a.fn (bits .or .i64 a.xp b.xp) (bits .or .i64 a.xn b.xn) b.yp b.yn V;rw [← hc] at this;exact this
   clear hc;have s:Hid (o=some (⟨n0,n1,n2,n3,n4,n5,n6,n7,[],n8,n9⟩:CL)):=by rw [Hid,I.out,HC.out]
   go_upto_region 14 with fail;clear y0 y1 y2 y3 y4 y5 y6 y7 y8 y9 A v0 v1 v2 v3 v4 v5 v6 v7 v8 v9 D
   have R:Hid (∀ V,Below W.heap.size W V→V.cell? ⟨w.heap.size,1,none⟩=some (.int .i64 a.fn)∧V.cell? ⟨w.heap.size,4,none⟩=some (.int .i64 a.xp)∧V.cell? ⟨w.heap.size,5,none⟩=some (.int .i64 a.xn)∧V.cell? ⟨w.heap.size+1,4,none⟩=some (.int .i64 b.xp)∧V.cell? ⟨w.heap.size+1,5,none⟩=some (.int .i64 b.xn)∧V.cell? ⟨w.heap.size+1,6,none⟩=some (.int .i64 b.yp)∧V.cell? ⟨w.heap.size+1,7,none⟩=some (.int .i64 b.yn)):=fun V hV=>by
    have ae:Below W.heap.size W V:=H0.out.trans (hV.mono H0.out.size);have q1:=(HB.out V ae).1.cells;have q2:=(HB.out V ae).2.cells;exact ⟨q1.2.1,q1.2.2.2.2.1,q1.2.2.2.2.2.1,q2.2.2.2.2.1,q2.2.2.2.2.2.1,q2.2.2.2.2.2.2.1,q2.2.2.2.2.2.2.2.1⟩
   have Hd:Below W.heap.size W W.drew:=(Below.refl _ _).drew;refine wp_region_held_drew (S:=(fun V=>V.cell? ⟨w.heap.size,1,none⟩=some (.int .i64 a.fn)∧V.cell? ⟨w.heap.size,4,none⟩=some (.int .i64 a.xp)∧V.cell? ⟨w.heap.size,5,none⟩=some (.int .i64 a.xn)∧V.cell? ⟨w.heap.size+1,4,none⟩=some (.int .i64 b.xp)∧V.cell? ⟨w.heap.size+1,5,none⟩=some (.int .i64 b.xn)∧V.cell? ⟨w.heap.size+1,6,none⟩=some (.int .i64 b.yp)∧V.cell? ⟨w.heap.size+1,7,none⟩=some (.int .i64 b.yn))) (by kernel_rfl) ?_ (fun hHeld=>?_)
   · (try dsimp only)
     with_reducible exact R.out _ Hd
   refine takeR (i:=0) (v:=?_) rfl (by kernel_rfl) ?_ (by assumption) ?_;rotate_left
   · intro w hSw;(try dsimp only at hSw);go_simp;(try with_reducible rfl)
   (try simp only [List.getElem_toArray]);(try simp only [List.getElem_cons_succ]);(try simp only [List.getElem_cons_zero]);(try simp only [Act.put]);(try simp only [List.setIfInBounds_toArray]);(try simp only [List.set_cons_succ]);(try simp only [List.set_cons_zero]);refine takeR (i:=1) (v:=?_) rfl (by kernel_rfl) ?_ (by assumption) ?_;rotate_left
   · intro w hSw;(try dsimp only at hSw);go_simp;(try with_reducible rfl)
   (try simp only [List.getElem_toArray]);(try simp only [List.getElem_cons_succ]);(try simp only [List.getElem_cons_zero]);(try simp only [Act.put]);(try simp only [List.setIfInBounds_toArray]);(try simp only [List.set_cons_succ]);(try simp only [List.set_cons_zero]);refine takeR (i:=2) (v:=?_) rfl (by kernel_rfl) ?_ (by assumption) ?_;rotate_left
   · intro w hSw;(try dsimp only at hSw);go_simp;(try with_reducible rfl)
   (try simp only [List.getElem_toArray]);(try simp only [List.getElem_cons_succ]);(try simp only [List.getElem_cons_zero]);(try simp only [Act.put]);(try simp only [List.setIfInBounds_toArray]);(try simp only [List.set_cons_succ]);(try simp only [List.set_cons_zero]);refine takeR (i:=3) (v:=?_) rfl (by kernel_rfl) ?_ (by assumption) ?_;rotate_left
   · intro w hSw;(try dsimp only at hSw);go_simp;(try with_reducible rfl)
   (try simp only [List.getElem_toArray]);(try simp only [List.getElem_cons_succ]);(try simp only [List.getElem_cons_zero]);(try simp only [Act.put]);(try simp only [List.setIfInBounds_toArray]);(try simp only [List.set_cons_succ]);(try simp only [List.set_cons_zero]);refine takeR (i:=4) (v:=?_) rfl (by kernel_rfl) ?_ (by assumption) ?_;rotate_left
   · intro w hSw;(try dsimp only at hSw);go_simp;(try with_reducible rfl)
   (try simp only [List.getElem_toArray]);(try simp only [List.getElem_cons_succ]);(try simp only [List.getElem_cons_zero]);(try simp only [Act.put]);(try simp only [List.setIfInBounds_toArray]);(try simp only [List.set_cons_succ]);(try simp only [List.set_cons_zero]);refine takeR (i:=5) (v:=?_) rfl (by kernel_rfl) ?_ (by assumption) ?_;rotate_left
   · intro w hSw;(try dsimp only at hSw);go_simp;(try with_reducible rfl)
   (try simp only [List.getElem_toArray]);(try simp only [List.getElem_cons_succ]);(try simp only [List.getElem_cons_zero]);(try simp only [Act.put]);(try simp only [List.setIfInBounds_toArray]);(try simp only [List.set_cons_succ]);(try simp only [List.set_cons_zero]);refine takeR (i:=7) (v:=?_) rfl (by kernel_rfl) ?_ (by assumption) ?_;rotate_left
   · intro w hSw;(try dsimp only at hSw);go_simp;(try with_reducible rfl)
   (try simp only [List.getElem_toArray]);(try simp only [List.getElem_cons_succ]);(try simp only [List.getElem_cons_zero]);(try simp only [Act.put]);(try simp only [List.setIfInBounds_toArray]);(try simp only [List.set_cons_succ]);(try simp only [List.set_cons_zero]);refine takeR (i:=8) (v:=?_) rfl (by kernel_rfl) ?_ (by assumption) ?_;rotate_left
   · intro w hSw;(try dsimp only at hSw);go_simp;(try with_reducible rfl)
   (try simp only [List.getElem_toArray]);(try simp only [List.getElem_cons_succ]);(try simp only [List.getElem_cons_zero]);(try simp only [Act.put]);(try simp only [List.setIfInBounds_toArray]);(try simp only [List.set_cons_succ]);(try simp only [List.set_cons_zero]);refine wpAnyH_ready (rs:=[6]) (by kernel_rfl) (by simp) ?_;refine AllReadyH.cons rfl (fun K hK=>?_) AllReadyH.nil;go_simp;go_wp2_with (go_at_call 103;refine (l7join_any a.xp a.xn b.xp b.xn _).mono ?_;rintro e wj ⟨rfl,hb⟩;have al:Hid (Below W.drew.heap.size W.drew wj):=hb;clear hb);have Hj:Hid (Below W.heap.size W wj):=Hd.trans (al.out.mono Hd.size);refine hK.out _ _ ?_ (fun hHeld=>?_)
   · (try dsimp only)
     with_reducible exact R.out _ Hj.out
   clear hK K;(try simp only [List.getElem_toArray]);(try simp only [List.getElem_cons_succ]);(try simp only [List.getElem_cons_zero]);(try simp only [Act.put]);(try simp only [List.setIfInBounds_toArray]);(try simp only [List.set_cons_succ]);(try simp only [List.set_cons_zero]);refine wpAnyH_ready (rs:=[9]) (by kernel_rfl) (by simp) ?_;refine AllReadyH.cons rfl (fun K hK=>?_) AllReadyH.nil;go_simp;go_wp2_with (go_at_call 102;refine (ah.out _).mono ?_;rintro e wn ⟨rfl,hb⟩;have ak:Hid (Below wj.heap.size wj wn):=hb;clear hb);have Hn:Hid (Below W.heap.size W wn):=Hj.out.trans (ak.out.mono Hj.out.size);have af:Hid (Below W.heap.size W wn):=H0.out.trans (Hn.out.mono H0.out.size);refine hK.out _ _ ?_ (fun hHeld=>?_)
   · (try dsimp only)
     with_reducible exact R.out _ Hn.out
   clear hK K;(try simp only [List.getElem_toArray]);(try simp only [List.getElem_cons_succ]);(try simp only [List.getElem_cons_zero]);(try simp only [Act.put]);(try simp only [List.setIfInBounds_toArray]);(try simp only [List.set_cons_succ]);(try simp only [List.set_cons_zero]);obtain ⟨Wz,r⟩:∃ Wz,Wz=wn.alloc (.cells #[.int .i64 n0,.int .i64 n1,.int .i64 n2,.int .i64 n3,.int .i64 n4,.int .i64 n5,.int .i64 n6,.int .i64 n7,.slice none 0 0,.int .i64 n8,.int .i64 n9] 32):=⟨_,rfl⟩;have O:Hid (Wz=wn.alloc (.cells #[.int .i64 n0,.int .i64 n1,.int .i64 n2,.int .i64 n3,.int .i64 n4,.int .i64 n5,.int .i64 n6,.int .i64 n7,.slice none 0 0,.int .i64 n8,.int .i64 n9] 32)):=r;have N:Below wn.heap.size wn Wz:=by rw [r];exact (Below.refl _ _).alloc (Nat.le_refl _) _
   have X:Hid (Below W.heap.size W Wz):=af.out.trans (N.mono af.out.size);have M:Wz.heap[wn.heap.size]?=some (.cells #[.int .i64 n0,.int .i64 n1,.int .i64 n2,.int .i64 n3,.int .i64 n4,.int .i64 n5,.int .i64 n6,.int .i64 n7,.slice none 0 0,.int .i64 n8,.int .i64 n9] 32 (0,0)):=by rw [r];exact World.alloc_heap_new wn _
   have J:wn.heap.size<Wz.heap.size:=by rw [r];simp
   have HQ:Hid (RdZ 0 Wz.heap.size Wz (some ⟨wn.heap.size,0,none⟩) 1 1 [(⟨n0,n1,n2,n3,n4,n5,n6,n7,[],n8,n9⟩:CL)]):=RdZ.bare (ia:=none) (ic:=0) rfl M J (by omega);clear r N M J;have aj:Hid (Below W.heap.size W Wz):=by rw [Hid,O.out];exact Hn.out.alloc Hn.out.size _
   refine wpAnyH_ready (rs:=[10]) (by kernel_rfl) (by simp) ?_;refine AllReadyH.cons rfl (fun K hK=>?_) AllReadyH.nil;go_simp;rw [← O.out];refine hK.out _ _ ?_ (fun hHeld=>?_)
   · (try dsimp only)
     with_reducible exact R.out _ aj.out
   clear hK K;(try simp only [List.getElem_toArray]);(try simp only [List.getElem_cons_succ]);(try simp only [List.getElem_cons_zero]);(try simp only [Act.put]);(try simp only [List.setIfInBounds_toArray]);(try simp only [List.set_cons_succ]);(try simp only [List.set_cons_zero]);refine takeR (i:=11) (v:=?_) rfl (by kernel_rfl) ?_ (by assumption) ?_;rotate_left
   · intro w hSw;(try dsimp only at hSw);go_simp;(try with_reducible rfl)
   (try simp only [List.getElem_toArray]);(try simp only [List.getElem_cons_succ]);(try simp only [List.getElem_cons_zero]);(try simp only [Act.put]);(try simp only [List.setIfInBounds_toArray]);(try simp only [List.set_cons_succ]);(try simp only [List.set_cons_zero]);refine wpAnyH_done (by kernel_rfl) ?_ _;clear hHeld R Hd;go_wp2_with fail;go_ret;exact ⟨some ⟨wn.heap.size,0,none⟩,1,by rw [s.out];rfl,by rw [s.out];exact HQ.out,HF.out _ X.out⟩
 have H:Hid (o=none):=by rw [Hid,HO.out,if_neg hf]
 have ad:(a.role == b.role)=false:=by simpa using hf
 clear hf;go_wp2_with fail;go_ret;exact ⟨none,0,by rw [H.out];rfl,by rw [H.out];exact RdZ.nil _ _ _,HF.out _ H0.out⟩
set_option maxRecDepth 100000 in
set_option maxHeartbeats 8000000 in
theorem l7one_24 (a b:CL) (ka:a.kind=2) (kb:b.kind=4) {ia ib:Option Addr} {ca cb la h lb d:Nat} {w:World} (ha:a.ok=true) (hb:b.ok=true) (h1:RP la h w ia a.inds.length ca a.inds) (h2:RP lb d w ib b.inds.length cb b.inds) (G:h≤w.heap.size) (F:d≤w.heap.size) {o:Option CL} (ho:o=if a.role=b.role then some (raised a b) else none) :
    Calls Try.prog 91 #[.agg #[.int .i64 a.kind,.int .i64 a.fn,.int .i64 a.role,.int .i64 a.above,.int .i64 a.xp,.int .i64 a.xn,.int .i64 a.yp,.int .i64 a.yn,.slice ia a.inds.length ca,.int .i64 a.a,.int .i64 a.b],.agg #[.int .i64 b.kind,.int .i64 b.fn,.int .i64 b.role,.int .i64 b.above,.int .i64 b.xp,.int .i64 b.xn,.int .i64 b.yp,.int .i64 b.yn,.slice ib b.inds.length cb,.int .i64 b.a,.int .i64 b.b]] w (QP w o.toList):=by
 have HO:Hid (o=if a.role=b.role then some (raised a b) else none):=ho;have ao:Hid (raised a b={ a with role:=b.above }):=ok_raised ha (.inl ka);have HI:Hid (a.inds=[]):=(ok_facts ha).2.2.2 (by omega);have HC:Hid (ca≤9223372036854775807):=h1.fits.2;have a7:(a.kind == 0)=false:=by rw [ka];rfl
 have a6:(a.kind == 1)=false:=by rw [ka];rfl
 have a5:(a.kind == 2)=true:=by rw [ka];rfl
 have a4:(a.kind == 5)=false:=by rw [ka];rfl
 have a3:(a.kind == 6)=false:=by rw [ka];rfl
 have a2:(b.kind == 0)=false:=by rw [kb];rfl
 have a1:(b.kind == 1)=false:=by rw [kb];rfl
 have a0:(b.kind == 3)=false:=by rw [kb];rfl
 have Z:(b.kind == 4)=true:=by rw [kb];rfl
 have Y:(b.kind == 5)=false:=by rw [kb];rfl
 have HR:Hid (∀ V,Below w.heap.size w V→RP la h V ia a.inds.length ca a.inds∧RP lb d V ib b.inds.length cb b.inds):=fun V hV=>⟨h1.below hV G,h2.below hV F⟩
 clear h1 h2 ha hb ka kb ho;obtain ⟨W,hW⟩:∃ W,W=(w.alloc (.cells #[.int .i64 a.kind,.int .i64 a.fn,.int .i64 a.role,.int .i64 a.above,.int .i64 a.xp,.int .i64 a.xn,.int .i64 a.yp,.int .i64 a.yn,.slice ia a.inds.length ca,.int .i64 a.a,.int .i64 a.b] 32)).alloc (.cells #[.int .i64 b.kind,.int .i64 b.fn,.int .i64 b.role,.int .i64 b.above,.int .i64 b.xp,.int .i64 b.xn,.int .i64 b.yp,.int .i64 b.yn,.slice ib b.inds.length cb,.int .i64 b.a,.int .i64 b.b] 32):=⟨_,rfl⟩;have HW:Hid (W=(w.alloc (.cells #[.int .i64 a.kind,.int .i64 a.fn,.int .i64 a.role,.int .i64 a.above,.int .i64 a.xp,.int .i64 a.xn,.int .i64 a.yp,.int .i64 a.yn,.slice ia a.inds.length ca,.int .i64 a.a,.int .i64 a.b] 32)).alloc (.cells #[.int .i64 b.kind,.int .i64 b.fn,.int .i64 b.role,.int .i64 b.above,.int .i64 b.xp,.int .i64 b.xn,.int .i64 b.yp,.int .i64 b.yn,.slice ib b.inds.length cb,.int .i64 b.a,.int .i64 b.b] 32)):=hW;have z:Below w.heap.size w W:=by rw [hW];exact ((Below.refl _ _).alloc (Nat.le_refl _) _).alloc (by simp) _
 have a8:W.heap.size=w.heap.size+2:=by rw [hW];simp
 have u:BoxK 32 W w.heap.size a.kind a.fn a.role a.above a.xp a.xn a.yp a.yn (.slice ia a.inds.length ca) a.a a.b:=by
  rw [hW];exact (BoxK.new 32 w _ _ _ _ _ _ _ _ _ _ _).below ((Below.refl _ _).alloc (Nat.le_refl _) _) (by simp)
 have t:BoxK 32 W (w.heap.size+1) b.kind b.fn b.role b.above b.xp b.xn b.yp b.yn (.slice ib b.inds.length cb) b.a b.b:=by
  rw [hW];have:=BoxK.new 32 (w.alloc (.cells #[.int .i64 a.kind,.int .i64 a.fn,.int .i64 a.role,.int .i64 a.above,.int .i64 a.xp,.int .i64 a.xn,.int .i64 a.yp,.int .i64 a.yn,.slice ia a.inds.length ca,.int .i64 a.a,.int .i64 a.b] 32)) b.kind b.fn b.role b.above b.xp b.xn b.yp b.yn (.slice ib b.inds.length cb) b.a b.b;rw [show (w.alloc (.cells #[.int .i64 a.kind,.int .i64 a.fn,.int .i64 a.role,.int .i64 a.above,.int .i64 a.xp,.int .i64 a.xn,.int .i64 a.yp,.int .i64 a.yn,.slice ia a.inds.length ca,.int .i64 a.a,.int .i64 a.b] 32)).heap.size=w.heap.size+1 from by simp] at this;exact this
 have HB:Hid (∀ V,Below W.heap.size W V→BoxK 32 V w.heap.size a.kind a.fn a.role a.above a.xp a.xn a.yp a.yn (.slice ia a.inds.length ca) a.a a.b∧BoxK 32 V (w.heap.size+1) b.kind b.fn b.role b.above b.xp b.xn b.yp b.yn (.slice ib b.inds.length cb) b.a b.b):=fun V hV=>⟨u.below hV (by omega),t.below hV (by omega)⟩
 have HF:Hid (∀ V,Below W.heap.size W V→Below w.heap.size w V):=fun V hV=>z.trans (hV.mono (by omega))
 have H0:Hid (Below W.heap.size W W):=Below.refl _ _;clear hW z u t;obtain ⟨y0,y1,y2,y3,y4,y5,y6,y7,y8,y9,A⟩:=(HB.out _ H0.out).1.cells;obtain ⟨v0,v1,v2,v3,v4,v5,v6,v7,v8,v9,D⟩:=(HB.out _ H0.out).2.cells;go_enter Try.func91, Try.ntmps91;go_upto_region 1 with fail;rw [← HW.out];by_cases hf:a.role=b.role
 · have s:Hid (o=some (raised a b)):=by rw [Hid,HO.out,if_pos hf]
   have ad:(a.role == b.role)=true:=by simpa using hf
   clear hf;have x0:=(HB.out _ H0.out).1;have aq:=x0.frz 2;obtain ⟨W3,ai⟩:∃ W3,W3=W.setCell ⟨w.heap.size,2,none⟩ (.int .i64 b.above):=⟨_,rfl⟩;have ar:Hid (BoxK 32 W3 w.heap.size a.kind a.fn b.above a.above a.xp a.xn a.yp a.yn (.slice ia a.inds.length ca) a.a a.b):=by rw [Hid,ai];exact x0.at 2 _
   have H3:Hid (Below w.heap.size w W3):=by rw [Hid,ai];exact (HF.out _ H0.out).setCell (p:=⟨w.heap.size,2,none⟩) (Nat.le_refl _) _
   clear x0;go_upto_region 17 with fail;rw [← ai];clear aq ai y0 y1 y2 y3 y4 y5 y6 y7 y8 y9 A v0 v1 v2 v3 v4 v5 v6 v7 v8 v9 D;obtain ⟨y0,y1,y2,y3,y4,y5,y6,y7,y8,y9,A⟩:=ar.out.cells;obtain ⟨Wz,r⟩:∃ Wz,Wz=W3.alloc (.cells #[.int .i64 a.kind,.int .i64 a.fn,.int .i64 b.above,.int .i64 a.above,.int .i64 a.xp,.int .i64 a.xn,.int .i64 a.yp,.int .i64 a.yn,.slice ia a.inds.length ca,.int .i64 a.a,.int .i64 a.b] 32):=⟨_,rfl⟩;have O:Hid (Wz=W3.alloc (.cells #[.int .i64 a.kind,.int .i64 a.fn,.int .i64 b.above,.int .i64 a.above,.int .i64 a.xp,.int .i64 a.xn,.int .i64 a.yp,.int .i64 a.yn,.slice ia a.inds.length ca,.int .i64 a.a,.int .i64 a.b] 32)):=r;have N:Below W3.heap.size W3 Wz:=by rw [r];exact (Below.refl _ _).alloc (Nat.le_refl _) _
   have X:Hid (Below w.heap.size w Wz):=H3.out.trans (N.mono H3.out.size);have M:Wz.heap[W3.heap.size]?=some (.cells #[.int .i64 a.kind,.int .i64 a.fn,.int .i64 b.above,.int .i64 a.above,.int .i64 a.xp,.int .i64 a.xn,.int .i64 a.yp,.int .i64 a.yn,.slice ia a.inds.length ca,.int .i64 a.a,.int .i64 a.b] 32 (0,0)):=by rw [r];exact World.alloc_heap_new W3 _
   have J:W3.heap.size<Wz.heap.size:=by rw [r];simp
   have HQ:Hid (RdZ 0 Wz.heap.size Wz (some ⟨W3.heap.size,0,none⟩) 1 1 [raised a b]):=by
    refine RdZ.bare (ia:=ia) (ic:=ca) (by rw [ao.out];exact HI.out) ?_ J HC.out;rw [M,ao.out,HI.out];rfl
   clear r N M J;go_wp2_with fail;go_ret;rw [← O.out];exact ⟨some ⟨W3.heap.size,0,none⟩,1,by rw [s.out];rfl,by rw [s.out];exact HQ.out,X.out⟩
 have H:Hid (o=none):=by rw [Hid,HO.out,if_neg hf]
 have ad:(a.role == b.role)=false:=by simpa using hf
 clear hf;go_wp2_with fail;go_ret;exact ⟨none,0,by rw [H.out];rfl,by rw [H.out];exact RdZ.nil _ _ _,HF.out _ H0.out⟩
set_option maxRecDepth 100000 in
set_option maxHeartbeats 8000000 in
theorem l7one_55 (a b:CL) (ka:a.kind=5) (kb:b.kind=5) {ia ib:Option Addr} {ca cb la h lb d:Nat} {w:World} (ha:a.ok=true) (hb:b.ok=true) (h1:RP la h w ia a.inds.length ca a.inds) (h2:RP lb d w ib b.inds.length cb b.inds) (G:h≤w.heap.size) (F:d≤w.heap.size) {o:Option CL} (ho:o=factsF a.inds b.inds) :
    Calls Try.prog 91 #[.agg #[.int .i64 a.kind,.int .i64 a.fn,.int .i64 a.role,.int .i64 a.above,.int .i64 a.xp,.int .i64 a.xn,.int .i64 a.yp,.int .i64 a.yn,.slice ia a.inds.length ca,.int .i64 a.a,.int .i64 a.b],.agg #[.int .i64 b.kind,.int .i64 b.fn,.int .i64 b.role,.int .i64 b.above,.int .i64 b.xp,.int .i64 b.xn,.int .i64 b.yp,.int .i64 b.yn,.slice ib b.inds.length cb,.int .i64 b.a,.int .i64 b.b]] w (QP w o.toList):=by
 have HO:Hid (o=factsF a.inds b.inds):=ho;have T:Hid (a.ok=true∧b.ok=true):=⟨ha,hb⟩;have U:Hid (a.kind=5∧b.kind=5):=⟨ka,kb⟩;have a7:(a.kind == 0)=false:=by rw [ka];rfl
 have a6:(a.kind == 1)=false:=by rw [ka];rfl
 have a5:(a.kind == 2)=false:=by rw [ka];rfl
 have a4:(a.kind == 5)=true:=by rw [ka];rfl
 have a3:(a.kind == 6)=false:=by rw [ka];rfl
 have a2:(b.kind == 0)=false:=by rw [kb];rfl
 have a1:(b.kind == 1)=false:=by rw [kb];rfl
 have a0:(b.kind == 3)=false:=by rw [kb];rfl
 have Z:(b.kind == 4)=false:=by rw [kb];rfl
 have Y:(b.kind == 5)=true:=by rw [kb];rfl
 have HR:Hid (∀ V,Below w.heap.size w V→RP la h V ia a.inds.length ca a.inds∧RP lb d V ib b.inds.length cb b.inds):=fun V hV=>⟨h1.below hV G,h2.below hV F⟩
 clear h1 h2 ha hb ka kb ho;obtain ⟨W,hW⟩:∃ W,W=(w.alloc (.cells #[.int .i64 a.kind,.int .i64 a.fn,.int .i64 a.role,.int .i64 a.above,.int .i64 a.xp,.int .i64 a.xn,.int .i64 a.yp,.int .i64 a.yn,.slice ia a.inds.length ca,.int .i64 a.a,.int .i64 a.b] 32)).alloc (.cells #[.int .i64 b.kind,.int .i64 b.fn,.int .i64 b.role,.int .i64 b.above,.int .i64 b.xp,.int .i64 b.xn,.int .i64 b.yp,.int .i64 b.yn,.slice ib b.inds.length cb,.int .i64 b.a,.int .i64 b.b] 32):=⟨_,rfl⟩;have HW:Hid (W=(w.alloc (.cells #[.int .i64 a.kind,.int .i64 a.fn,.int .i64 a.role,.int .i64 a.above,.int .i64 a.xp,.int .i64 a.xn,.int .i64 a.yp,.int .i64 a.yn,.slice ia a.inds.length ca,.int .i64 a.a,.int .i64 a.b] 32)).alloc (.cells #[.int .i64 b.kind,.int .i64 b.fn,.int .i64 b.role,.int .i64 b.above,.int .i64 b.xp,.int .i64 b.xn,.int .i64 b.yp,.int .i64 b.yn,.slice ib b.inds.length cb,.int .i64 b.a,.int .i64 b.b] 32)):=hW;have z:Below w.heap.size w W:=by rw [hW];exact ((Below.refl _ _).alloc (Nat.le_refl _) _).alloc (by simp) _
 have a8:W.heap.size=w.heap.size+2:=by rw [hW];simp
 have u:BoxK 32 W w.heap.size a.kind a.fn a.role a.above a.xp a.xn a.yp a.yn (.slice ia a.inds.length ca) a.a a.b:=by
  rw [hW];exact (BoxK.new 32 w _ _ _ _ _ _ _ _ _ _ _).below ((Below.refl _ _).alloc (Nat.le_refl _) _) (by simp)
 have t:BoxK 32 W (w.heap.size+1) b.kind b.fn b.role b.above b.xp b.xn b.yp b.yn (.slice ib b.inds.length cb) b.a b.b:=by
  rw [hW];have:=BoxK.new 32 (w.alloc (.cells #[.int .i64 a.kind,.int .i64 a.fn,.int .i64 a.role,.int .i64 a.above,.int .i64 a.xp,.int .i64 a.xn,.int .i64 a.yp,.int .i64 a.yn,.slice ia a.inds.length ca,.int .i64 a.a,.int .i64 a.b] 32)) b.kind b.fn b.role b.above b.xp b.xn b.yp b.yn (.slice ib b.inds.length cb) b.a b.b;rw [show (w.alloc (.cells #[.int .i64 a.kind,.int .i64 a.fn,.int .i64 a.role,.int .i64 a.above,.int .i64 a.xp,.int .i64 a.xn,.int .i64 a.yp,.int .i64 a.yn,.slice ia a.inds.length ca,.int .i64 a.a,.int .i64 a.b] 32)).heap.size=w.heap.size+1 from by simp] at this;exact this
 have HB:Hid (∀ V,Below W.heap.size W V→BoxK 32 V w.heap.size a.kind a.fn a.role a.above a.xp a.xn a.yp a.yn (.slice ia a.inds.length ca) a.a a.b∧BoxK 32 V (w.heap.size+1) b.kind b.fn b.role b.above b.xp b.xn b.yp b.yn (.slice ib b.inds.length cb) b.a b.b):=fun V hV=>⟨u.below hV (by omega),t.below hV (by omega)⟩
 have HF:Hid (∀ V,Below W.heap.size W V→Below w.heap.size w V):=fun V hV=>z.trans (hV.mono (by omega))
 have H0:Hid (Below W.heap.size W W):=Below.refl _ _;clear hW z u t;obtain ⟨y0,y1,y2,y3,y4,y5,y6,y7,y8,y9,A⟩:=(HB.out _ H0.out).1.cells;obtain ⟨v0,v1,v2,v3,v4,v5,v6,v7,v8,v9,D⟩:=(HB.out _ H0.out).2.cells;go_enter Try.func91, Try.ntmps91;go_upto_region 1 with fail;rw [← HW.out];go_wp2_with fail;refine (l7facts_ff a b U.out.1 U.out.2 T.out.1 T.out.2 (HR.out _ (HF.out _ H0.out)).1 (HR.out _ (HF.out _ H0.out)).2 (by omega) (by omega) HO.out).mono ?_;rintro e w1 ⟨qa,qc,rfl,hq,E⟩;have HQ:Hid (RdZ 0 w1.heap.size w1 qa o.toList.length qc o.toList):=hq;have H1:Hid (Below W.heap.size W w1):=E;clear hq E y0 y1 y2 y3 y4 y5 y6 y7 y8 y9 A v0 v1 v2 v3 v4 v5 v6 v7 v8 v9 D;go_wp2_with fail;go_ret;exact ⟨qa,qc,rfl,HQ.out,HF.out _ H1.out⟩
set_option maxRecDepth 100000 in
set_option maxHeartbeats 8000000 in
theorem l7one_50 (a b:CL) (ka:a.kind=5) (kb:b.kind=0) {ia ib:Option Addr} {ca cb la h lb d:Nat} {w:World} (ha:a.ok=true) (hb:b.ok=true) (h1:RP la h w ia a.inds.length ca a.inds) (h2:RP lb d w ib b.inds.length cb b.inds) (G:h≤w.heap.size) (F:d≤w.heap.size) {o:Option CL} (ho:o=factsO a.inds b.x) :
    Calls Try.prog 91 #[.agg #[.int .i64 a.kind,.int .i64 a.fn,.int .i64 a.role,.int .i64 a.above,.int .i64 a.xp,.int .i64 a.xn,.int .i64 a.yp,.int .i64 a.yn,.slice ia a.inds.length ca,.int .i64 a.a,.int .i64 a.b],.agg #[.int .i64 b.kind,.int .i64 b.fn,.int .i64 b.role,.int .i64 b.above,.int .i64 b.xp,.int .i64 b.xn,.int .i64 b.yp,.int .i64 b.yn,.slice ib b.inds.length cb,.int .i64 b.a,.int .i64 b.b]] w (QP w o.toList):=by
 have HO:Hid (o=factsO a.inds b.x):=ho;have T:Hid (a.ok=true∧b.ok=true):=⟨ha,hb⟩;have U:Hid (a.kind=5∧b.kind=0):=⟨ka,kb⟩;have a7:(a.kind == 0)=false:=by rw [ka];rfl
 have a6:(a.kind == 1)=false:=by rw [ka];rfl
 have a5:(a.kind == 2)=false:=by rw [ka];rfl
 have a4:(a.kind == 5)=true:=by rw [ka];rfl
 have a3:(a.kind == 6)=false:=by rw [ka];rfl
 have a2:(b.kind == 0)=true:=by rw [kb];rfl
 have a1:(b.kind == 1)=false:=by rw [kb];rfl
 have a0:(b.kind == 3)=false:=by rw [kb];rfl
 have Z:(b.kind == 4)=false:=by rw [kb];rfl
 have Y:(b.kind == 5)=false:=by rw [kb];rfl
 have HR:Hid (∀ V,Below w.heap.size w V→RP la h V ia a.inds.length ca a.inds∧RP lb d V ib b.inds.length cb b.inds):=fun V hV=>⟨h1.below hV G,h2.below hV F⟩
 clear h1 h2 ha hb ka kb ho;obtain ⟨W,hW⟩:∃ W,W=(w.alloc (.cells #[.int .i64 a.kind,.int .i64 a.fn,.int .i64 a.role,.int .i64 a.above,.int .i64 a.xp,.int .i64 a.xn,.int .i64 a.yp,.int .i64 a.yn,.slice ia a.inds.length ca,.int .i64 a.a,.int .i64 a.b] 32)).alloc (.cells #[.int .i64 b.kind,.int .i64 b.fn,.int .i64 b.role,.int .i64 b.above,.int .i64 b.xp,.int .i64 b.xn,.int .i64 b.yp,.int .i64 b.yn,.slice ib b.inds.length cb,.int .i64 b.a,.int .i64 b.b] 32):=⟨_,rfl⟩;have HW:Hid (W=(w.alloc (.cells #[.int .i64 a.kind,.int .i64 a.fn,.int .i64 a.role,.int .i64 a.above,.int .i64 a.xp,.int .i64 a.xn,.int .i64 a.yp,.int .i64 a.yn,.slice ia a.inds.length ca,.int .i64 a.a,.int .i64 a.b] 32)).alloc (.cells #[.int .i64 b.kind,.int .i64 b.fn,.int .i64 b.role,.int .i64 b.above,.int .i64 b.xp,.int .i64 b.xn,.int .i64 b.yp,.int .i64 b.yn,.slice ib b.inds.length cb,.int .i64 b.a,.int .i64 b.b] 32)):=hW;have z:Below w.heap.size w W:=by rw [hW];exact ((Below.refl _ _).alloc (Nat.le_refl _) _).alloc (by simp) _
 have a8:W.heap.size=w.heap.size+2:=by rw [hW];simp
 have u:BoxK 32 W w.heap.size a.kind a.fn a.role a.above a.xp a.xn a.yp a.yn (.slice ia a.inds.length ca) a.a a.b:=by
  rw [hW];exact (BoxK.new 32 w _ _ _ _ _ _ _ _ _ _ _).below ((Below.refl _ _).alloc (Nat.le_refl _) _) (by simp)
 have t:BoxK 32 W (w.heap.size+1) b.kind b.fn b.role b.above b.xp b.xn b.yp b.yn (.slice ib b.inds.length cb) b.a b.b:=by
  rw [hW];have:=BoxK.new 32 (w.alloc (.cells #[.int .i64 a.kind,.int .i64 a.fn,.int .i64 a.role,.int .i64 a.above,.int .i64 a.xp,.int .i64 a.xn,.int .i64 a.yp,.int .i64 a.yn,.slice ia a.inds.length ca,.int .i64 a.a,.int .i64 a.b] 32)) b.kind b.fn b.role b.above b.xp b.xn b.yp b.yn (.slice ib b.inds.length cb) b.a b.b;rw [show (w.alloc (.cells #[.int .i64 a.kind,.int .i64 a.fn,.int .i64 a.role,.int .i64 a.above,.int .i64 a.xp,.int .i64 a.xn,.int .i64 a.yp,.int .i64 a.yn,.slice ia a.inds.length ca,.int .i64 a.a,.int .i64 a.b] 32)).heap.size=w.heap.size+1 from by simp] at this;exact this
 have HB:Hid (∀ V,Below W.heap.size W V→BoxK 32 V w.heap.size a.kind a.fn a.role a.above a.xp a.xn a.yp a.yn (.slice ia a.inds.length ca) a.a a.b∧BoxK 32 V (w.heap.size+1) b.kind b.fn b.role b.above b.xp b.xn b.yp b.yn (.slice ib b.inds.length cb) b.a b.b):=fun V hV=>⟨u.below hV (by omega),t.below hV (by omega)⟩
 have HF:Hid (∀ V,Below W.heap.size W V→Below w.heap.size w V):=fun V hV=>z.trans (hV.mono (by omega))
 have H0:Hid (Below W.heap.size W W):=Below.refl _ _;clear hW z u t;obtain ⟨y0,y1,y2,y3,y4,y5,y6,y7,y8,y9,A⟩:=(HB.out _ H0.out).1.cells;obtain ⟨v0,v1,v2,v3,v4,v5,v6,v7,v8,v9,D⟩:=(HB.out _ H0.out).2.cells;go_enter Try.func91, Try.ntmps91;go_upto_region 1 with fail;rw [← HW.out];go_wp2_with fail;refine (l7facts_fo a b U.out.1 U.out.2 T.out.1 T.out.2 (HR.out _ (HF.out _ H0.out)).1 (HR.out _ (HF.out _ H0.out)).2 (by omega) (by omega) HO.out).mono ?_;rintro e w1 ⟨qa,qc,rfl,hq,E⟩;have HQ:Hid (RdZ 0 w1.heap.size w1 qa o.toList.length qc o.toList):=hq;have H1:Hid (Below W.heap.size W w1):=E;clear hq E y0 y1 y2 y3 y4 y5 y6 y7 y8 y9 A v0 v1 v2 v3 v4 v5 v6 v7 v8 v9 D;go_wp2_with fail;go_ret;exact ⟨qa,qc,rfl,HQ.out,HF.out _ H1.out⟩
set_option maxRecDepth 100000 in
set_option maxHeartbeats 8000000 in
theorem l7one_63 (a b:CL) (ka:a.kind=6) (kb:b.kind=3) {ia ib:Option Addr} {ca cb la h lb d:Nat} {w:World} (ha:a.ok=true) (hb:b.ok=true) (h1:RP la h w ia a.inds.length ca a.inds) (h2:RP lb d w ib b.inds.length cb b.inds) (G:h≤w.heap.size) (F:d≤w.heap.size) {o:Option CL} (ho:o=if a.role=b.role then some (pairC a b) else none) :
    Calls Try.prog 91 #[.agg #[.int .i64 a.kind,.int .i64 a.fn,.int .i64 a.role,.int .i64 a.above,.int .i64 a.xp,.int .i64 a.xn,.int .i64 a.yp,.int .i64 a.yn,.slice ia a.inds.length ca,.int .i64 a.a,.int .i64 a.b],.agg #[.int .i64 b.kind,.int .i64 b.fn,.int .i64 b.role,.int .i64 b.above,.int .i64 b.xp,.int .i64 b.xn,.int .i64 b.yp,.int .i64 b.yn,.slice ib b.inds.length cb,.int .i64 b.a,.int .i64 b.b]] w (QP w o.toList):=by
 have HO:Hid (o=if a.role=b.role then some (pairC a b) else none):=ho;have T:Hid (a.ok=true∧b.ok=true):=⟨ha,hb⟩;have U:Hid (a.kind=6∧b.kind=3):=⟨ka,kb⟩;have a7:(a.kind == 0)=false:=by rw [ka];rfl
 have a6:(a.kind == 1)=false:=by rw [ka];rfl
 have a5:(a.kind == 2)=false:=by rw [ka];rfl
 have a4:(a.kind == 5)=false:=by rw [ka];rfl
 have a3:(a.kind == 6)=true:=by rw [ka];rfl
 have a2:(b.kind == 0)=false:=by rw [kb];rfl
 have a1:(b.kind == 1)=false:=by rw [kb];rfl
 have a0:(b.kind == 3)=true:=by rw [kb];rfl
 have Z:(b.kind == 4)=false:=by rw [kb];rfl
 have Y:(b.kind == 5)=false:=by rw [kb];rfl
 have HR:Hid (∀ V,Below w.heap.size w V→RP la h V ia a.inds.length ca a.inds∧RP lb d V ib b.inds.length cb b.inds):=fun V hV=>⟨h1.below hV G,h2.below hV F⟩
 clear h1 h2 ha hb ka kb ho;obtain ⟨W,hW⟩:∃ W,W=(w.alloc (.cells #[.int .i64 a.kind,.int .i64 a.fn,.int .i64 a.role,.int .i64 a.above,.int .i64 a.xp,.int .i64 a.xn,.int .i64 a.yp,.int .i64 a.yn,.slice ia a.inds.length ca,.int .i64 a.a,.int .i64 a.b] 32)).alloc (.cells #[.int .i64 b.kind,.int .i64 b.fn,.int .i64 b.role,.int .i64 b.above,.int .i64 b.xp,.int .i64 b.xn,.int .i64 b.yp,.int .i64 b.yn,.slice ib b.inds.length cb,.int .i64 b.a,.int .i64 b.b] 32):=⟨_,rfl⟩;have HW:Hid (W=(w.alloc (.cells #[.int .i64 a.kind,.int .i64 a.fn,.int .i64 a.role,.int .i64 a.above,.int .i64 a.xp,.int .i64 a.xn,.int .i64 a.yp,.int .i64 a.yn,.slice ia a.inds.length ca,.int .i64 a.a,.int .i64 a.b] 32)).alloc (.cells #[.int .i64 b.kind,.int .i64 b.fn,.int .i64 b.role,.int .i64 b.above,.int .i64 b.xp,.int .i64 b.xn,.int .i64 b.yp,.int .i64 b.yn,.slice ib b.inds.length cb,.int .i64 b.a,.int .i64 b.b] 32)):=hW;have z:Below w.heap.size w W:=by rw [hW];exact ((Below.refl _ _).alloc (Nat.le_refl _) _).alloc (by simp) _
 have a8:W.heap.size=w.heap.size+2:=by rw [hW];simp
 have u:BoxK 32 W w.heap.size a.kind a.fn a.role a.above a.xp a.xn a.yp a.yn (.slice ia a.inds.length ca) a.a a.b:=by
  rw [hW];exact (BoxK.new 32 w _ _ _ _ _ _ _ _ _ _ _).below ((Below.refl _ _).alloc (Nat.le_refl _) _) (by simp)
 have t:BoxK 32 W (w.heap.size+1) b.kind b.fn b.role b.above b.xp b.xn b.yp b.yn (.slice ib b.inds.length cb) b.a b.b:=by
  rw [hW];have:=BoxK.new 32 (w.alloc (.cells #[.int .i64 a.kind,.int .i64 a.fn,.int .i64 a.role,.int .i64 a.above,.int .i64 a.xp,.int .i64 a.xn,.int .i64 a.yp,.int .i64 a.yn,.slice ia a.inds.length ca,.int .i64 a.a,.int .i64 a.b] 32)) b.kind b.fn b.role b.above b.xp b.xn b.yp b.yn (.slice ib b.inds.length cb) b.a b.b;rw [show (w.alloc (.cells #[.int .i64 a.kind,.int .i64 a.fn,.int .i64 a.role,.int .i64 a.above,.int .i64 a.xp,.int .i64 a.xn,.int .i64 a.yp,.int .i64 a.yn,.slice ia a.inds.length ca,.int .i64 a.a,.int .i64 a.b] 32)).heap.size=w.heap.size+1 from by simp] at this;exact this
 have HB:Hid (∀ V,Below W.heap.size W V→BoxK 32 V w.heap.size a.kind a.fn a.role a.above a.xp a.xn a.yp a.yn (.slice ia a.inds.length ca) a.a a.b∧BoxK 32 V (w.heap.size+1) b.kind b.fn b.role b.above b.xp b.xn b.yp b.yn (.slice ib b.inds.length cb) b.a b.b):=fun V hV=>⟨u.below hV (by omega),t.below hV (by omega)⟩
 have HF:Hid (∀ V,Below W.heap.size W V→Below w.heap.size w V):=fun V hV=>z.trans (hV.mono (by omega))
 have H0:Hid (Below W.heap.size W W):=Below.refl _ _;clear hW z u t;obtain ⟨y0,y1,y2,y3,y4,y5,y6,y7,y8,y9,A⟩:=(HB.out _ H0.out).1.cells;obtain ⟨v0,v1,v2,v3,v4,v5,v6,v7,v8,v9,D⟩:=(HB.out _ H0.out).2.cells;go_enter Try.func91, Try.ntmps91;go_upto_region 1 with fail;rw [← HW.out];go_wp2_with fail;refine (l7pair_all a b U.out.1 U.out.2 T.out.1 T.out.2 (HR.out _ (HF.out _ H0.out)).1 (HR.out _ (HF.out _ H0.out)).2 (by omega) (by omega) HO.out).mono ?_;rintro e w1 ⟨qa,qc,rfl,hq,E⟩;have HQ:Hid (RdZ 0 w1.heap.size w1 qa o.toList.length qc o.toList):=hq;have H1:Hid (Below W.heap.size W w1):=E;clear hq E y0 y1 y2 y3 y4 y5 y6 y7 y8 y9 A v0 v1 v2 v3 v4 v5 v6 v7 v8 v9 D;go_wp2_with fail;go_ret;exact ⟨qa,qc,rfl,HQ.out,HF.out _ H1.out⟩
set_option maxRecDepth 100000 in
set_option maxHeartbeats 8000000 in
theorem l7one_64 (a b:CL) (ka:a.kind=6) (kb:b.kind=4) {ia ib:Option Addr} {ca cb la h lb d:Nat} {w:World} (ha:a.ok=true) (hb:b.ok=true) (h1:RP la h w ia a.inds.length ca a.inds) (h2:RP lb d w ib b.inds.length cb b.inds) (G:h≤w.heap.size) (F:d≤w.heap.size) {o:Option CL} (ho:o=if a.role=b.role then some (raised a b) else none) :
    Calls Try.prog 91 #[.agg #[.int .i64 a.kind,.int .i64 a.fn,.int .i64 a.role,.int .i64 a.above,.int .i64 a.xp,.int .i64 a.xn,.int .i64 a.yp,.int .i64 a.yn,.slice ia a.inds.length ca,.int .i64 a.a,.int .i64 a.b],.agg #[.int .i64 b.kind,.int .i64 b.fn,.int .i64 b.role,.int .i64 b.above,.int .i64 b.xp,.int .i64 b.xn,.int .i64 b.yp,.int .i64 b.yn,.slice ib b.inds.length cb,.int .i64 b.a,.int .i64 b.b]] w (QP w o.toList):=by
 have HO:Hid (o=if a.role=b.role then some (raised a b) else none):=ho;have T:Hid (a.ok=true∧b.ok=true):=⟨ha,hb⟩;have U:Hid (a.kind=6∧b.kind=4):=⟨ka,kb⟩;have a7:(a.kind == 0)=false:=by rw [ka];rfl
 have a6:(a.kind == 1)=false:=by rw [ka];rfl
 have a5:(a.kind == 2)=false:=by rw [ka];rfl
 have a4:(a.kind == 5)=false:=by rw [ka];rfl
 have a3:(a.kind == 6)=true:=by rw [ka];rfl
 have a2:(b.kind == 0)=false:=by rw [kb];rfl
 have a1:(b.kind == 1)=false:=by rw [kb];rfl
 have a0:(b.kind == 3)=false:=by rw [kb];rfl
 have Z:(b.kind == 4)=true:=by rw [kb];rfl
 have Y:(b.kind == 5)=false:=by rw [kb];rfl
 have HR:Hid (∀ V,Below w.heap.size w V→RP la h V ia a.inds.length ca a.inds∧RP lb d V ib b.inds.length cb b.inds):=fun V hV=>⟨h1.below hV G,h2.below hV F⟩
 clear h1 h2 ha hb ka kb ho;obtain ⟨W,hW⟩:∃ W,W=(w.alloc (.cells #[.int .i64 a.kind,.int .i64 a.fn,.int .i64 a.role,.int .i64 a.above,.int .i64 a.xp,.int .i64 a.xn,.int .i64 a.yp,.int .i64 a.yn,.slice ia a.inds.length ca,.int .i64 a.a,.int .i64 a.b] 32)).alloc (.cells #[.int .i64 b.kind,.int .i64 b.fn,.int .i64 b.role,.int .i64 b.above,.int .i64 b.xp,.int .i64 b.xn,.int .i64 b.yp,.int .i64 b.yn,.slice ib b.inds.length cb,.int .i64 b.a,.int .i64 b.b] 32):=⟨_,rfl⟩;have HW:Hid (W=(w.alloc (.cells #[.int .i64 a.kind,.int .i64 a.fn,.int .i64 a.role,.int .i64 a.above,.int .i64 a.xp,.int .i64 a.xn,.int .i64 a.yp,.int .i64 a.yn,.slice ia a.inds.length ca,.int .i64 a.a,.int .i64 a.b] 32)).alloc (.cells #[.int .i64 b.kind,.int .i64 b.fn,.int .i64 b.role,.int .i64 b.above,.int .i64 b.xp,.int .i64 b.xn,.int .i64 b.yp,.int .i64 b.yn,.slice ib b.inds.length cb,.int .i64 b.a,.int .i64 b.b] 32)):=hW;have z:Below w.heap.size w W:=by rw [hW];exact ((Below.refl _ _).alloc (Nat.le_refl _) _).alloc (by simp) _
 have a8:W.heap.size=w.heap.size+2:=by rw [hW];simp
 have u:BoxK 32 W w.heap.size a.kind a.fn a.role a.above a.xp a.xn a.yp a.yn (.slice ia a.inds.length ca) a.a a.b:=by
  rw [hW];exact (BoxK.new 32 w _ _ _ _ _ _ _ _ _ _ _).below ((Below.refl _ _).alloc (Nat.le_refl _) _) (by simp)
 have t:BoxK 32 W (w.heap.size+1) b.kind b.fn b.role b.above b.xp b.xn b.yp b.yn (.slice ib b.inds.length cb) b.a b.b:=by
  rw [hW];have:=BoxK.new 32 (w.alloc (.cells #[.int .i64 a.kind,.int .i64 a.fn,.int .i64 a.role,.int .i64 a.above,.int .i64 a.xp,.int .i64 a.xn,.int .i64 a.yp,.int .i64 a.yn,.slice ia a.inds.length ca,.int .i64 a.a,.int .i64 a.b] 32)) b.kind b.fn b.role b.above b.xp b.xn b.yp b.yn (.slice ib b.inds.length cb) b.a b.b;rw [show (w.alloc (.cells #[.int .i64 a.kind,.int .i64 a.fn,.int .i64 a.role,.int .i64 a.above,.int .i64 a.xp,.int .i64 a.xn,.int .i64 a.yp,.int .i64 a.yn,.slice ia a.inds.length ca,.int .i64 a.a,.int .i64 a.b] 32)).heap.size=w.heap.size+1 from by simp] at this;exact this
 have HB:Hid (∀ V,Below W.heap.size W V→BoxK 32 V w.heap.size a.kind a.fn a.role a.above a.xp a.xn a.yp a.yn (.slice ia a.inds.length ca) a.a a.b∧BoxK 32 V (w.heap.size+1) b.kind b.fn b.role b.above b.xp b.xn b.yp b.yn (.slice ib b.inds.length cb) b.a b.b):=fun V hV=>⟨u.below hV (by omega),t.below hV (by omega)⟩
 have HF:Hid (∀ V,Below W.heap.size W V→Below w.heap.size w V):=fun V hV=>z.trans (hV.mono (by omega))
 have H0:Hid (Below W.heap.size W W):=Below.refl _ _;clear hW z u t;obtain ⟨y0,y1,y2,y3,y4,y5,y6,y7,y8,y9,A⟩:=(HB.out _ H0.out).1.cells;obtain ⟨v0,v1,v2,v3,v4,v5,v6,v7,v8,v9,D⟩:=(HB.out _ H0.out).2.cells;go_enter Try.func91, Try.ntmps91;go_upto_region 1 with fail;rw [← HW.out];go_wp2_with fail;refine (l7pair_role a b U.out.1 U.out.2 T.out.1 T.out.2 (HR.out _ (HF.out _ H0.out)).1 (HR.out _ (HF.out _ H0.out)).2 (by omega) (by omega) HO.out).mono ?_;rintro e w1 ⟨qa,qc,rfl,hq,E⟩;have HQ:Hid (RdZ 0 w1.heap.size w1 qa o.toList.length qc o.toList):=hq;have H1:Hid (Below W.heap.size W w1):=E;clear hq E y0 y1 y2 y3 y4 y5 y6 y7 y8 y9 A v0 v1 v2 v3 v4 v5 v6 v7 v8 v9 D;go_wp2_with fail;go_ret;exact ⟨qa,qc,rfl,HQ.out,HF.out _ H1.out⟩
end Go.Proofs.Ytkjmfaohdhiiaaa
