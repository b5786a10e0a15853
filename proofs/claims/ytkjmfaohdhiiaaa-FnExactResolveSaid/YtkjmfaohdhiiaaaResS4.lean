/- What follows of a clause with another one, by the specification: of all kinds. -/
import Derived.Test.YtkjmfaohdhiiaaaResS3
namespace Go.Proofs.Ytkjmfaohdhiiaaa
open Go.RowKit
set_option linter.unusedVariables false
set_option maxRecDepth 100000 in
set_option maxHeartbeats 8000000 in
theorem l7one_n0 (a b:CL) (ka:a.kind=0) (s:b.kind≠0) {ia ib:Option Addr} {ca cb:Nat} {w:World} :
    Calls Try.prog 91 #[.agg #[.int .i64 a.kind,.int .i64 a.fn,.int .i64 a.role,.int .i64 a.above,.int .i64 a.xp,.int .i64 a.xn,.int .i64 a.yp,.int .i64 a.yn,.slice ia a.inds.length ca,.int .i64 a.a,.int .i64 a.b],.agg #[.int .i64 b.kind,.int .i64 b.fn,.int .i64 b.role,.int .i64 b.above,.int .i64 b.xp,.int .i64 b.xn,.int .i64 b.yp,.int .i64 b.yn,.slice ib b.inds.length cb,.int .i64 b.a,.int .i64 b.b]] w (QP w []):=by
 have F:(a.kind == 0)=true:=by rw [ka];rfl
 have E:(a.kind == 1)=false:=by rw [ka];rfl
 have D:(a.kind == 2)=false:=by rw [ka];rfl
 have A:(a.kind == 5)=false:=by rw [ka];rfl
 have z:(a.kind == 6)=false:=by rw [ka];rfl
 have J:(b.kind == 0)=false:=by simpa using s
 clear ka s;obtain ⟨W,hW⟩:∃ W,W=(w.alloc (.cells #[.int .i64 a.kind,.int .i64 a.fn,.int .i64 a.role,.int .i64 a.above,.int .i64 a.xp,.int .i64 a.xn,.int .i64 a.yp,.int .i64 a.yn,.slice ia a.inds.length ca,.int .i64 a.a,.int .i64 a.b] 32)).alloc (.cells #[.int .i64 b.kind,.int .i64 b.fn,.int .i64 b.role,.int .i64 b.above,.int .i64 b.xp,.int .i64 b.xn,.int .i64 b.yp,.int .i64 b.yn,.slice ib b.inds.length cb,.int .i64 b.a,.int .i64 b.b] 32):=⟨_,rfl⟩;have HW:Hid (W=(w.alloc (.cells #[.int .i64 a.kind,.int .i64 a.fn,.int .i64 a.role,.int .i64 a.above,.int .i64 a.xp,.int .i64 a.xn,.int .i64 a.yp,.int .i64 a.yn,.slice ia a.inds.length ca,.int .i64 a.a,.int .i64 a.b] 32)).alloc (.cells #[.int .i64 b.kind,.int .i64 b.fn,.int .i64 b.role,.int .i64 b.above,.int .i64 b.xp,.int .i64 b.xn,.int .i64 b.yp,.int .i64 b.yn,.slice ib b.inds.length cb,.int .i64 b.a,.int .i64 b.b] 32)):=hW;have m:Below w.heap.size w W:=by rw [hW];exact ((Below.refl _ _).alloc (Nat.le_refl _) _).alloc (by simp) _
 have G:W.heap.size=w.heap.size+2:=by rw [hW];simp
 have h:BoxK 32 W w.heap.size a.kind a.fn a.role a.above a.xp a.xn a.yp a.yn (.slice ia a.inds.length ca) a.a a.b:=by
  rw [hW];exact (BoxK.new 32 w _ _ _ _ _ _ _ _ _ _ _).below ((Below.refl _ _).alloc (Nat.le_refl _) _) (by simp)
 have d:BoxK 32 W (w.heap.size+1) b.kind b.fn b.role b.above b.xp b.xn b.yp b.yn (.slice ib b.inds.length cb) b.a b.b:=by
  rw [hW];have:=BoxK.new 32 (w.alloc (.cells #[.int .i64 a.kind,.int .i64 a.fn,.int .i64 a.role,.int .i64 a.above,.int .i64 a.xp,.int .i64 a.xn,.int .i64 a.yp,.int .i64 a.yn,.slice ia a.inds.length ca,.int .i64 a.a,.int .i64 a.b] 32)) b.kind b.fn b.role b.above b.xp b.xn b.yp b.yn (.slice ib b.inds.length cb) b.a b.b;rw [show (w.alloc (.cells #[.int .i64 a.kind,.int .i64 a.fn,.int .i64 a.role,.int .i64 a.above,.int .i64 a.xp,.int .i64 a.xn,.int .i64 a.yp,.int .i64 a.yn,.slice ia a.inds.length ca,.int .i64 a.a,.int .i64 a.b] 32)).heap.size=w.heap.size+1 from by simp] at this;exact this
 have HB:Hid (∀ V,Below W.heap.size W V→BoxK 32 V w.heap.size a.kind a.fn a.role a.above a.xp a.xn a.yp a.yn (.slice ia a.inds.length ca) a.a a.b∧BoxK 32 V (w.heap.size+1) b.kind b.fn b.role b.above b.xp b.xn b.yp b.yn (.slice ib b.inds.length cb) b.a b.b):=fun V hV=>⟨h.below hV (by omega),d.below hV (by omega)⟩
 have HF:Hid (∀ V,Below W.heap.size W V→Below w.heap.size w V):=fun V hV=>m.trans (hV.mono (by omega))
 have H0:Hid (Below W.heap.size W W):=Below.refl _ _;clear hW m h d;obtain ⟨y0,y1,y2,y3,y4,y5,y6,y7,y8,y9,t⟩:=(HB.out _ H0.out).1.cells;obtain ⟨v0,v1,v2,v3,v4,v5,v6,v7,v8,v9,u⟩:=(HB.out _ H0.out).2.cells;go_enter Try.func91, Try.ntmps91;go_upto_region 1 with fail;rw [← HW.out];go_wp2_with fail;go_ret;exact ⟨none,0,rfl,RdZ.nil _ _ _,HF.out _ H0.out⟩
set_option maxRecDepth 100000 in
set_option maxHeartbeats 8000000 in
theorem l7one_n1 (a b:CL) (ka:a.kind=1) (s:b.kind≠0) (M:b.kind≠1) {ia ib:Option Addr} {ca cb:Nat} {w:World} :
    Calls Try.prog 91 #[.agg #[.int .i64 a.kind,.int .i64 a.fn,.int .i64 a.role,.int .i64 a.above,.int .i64 a.xp,.int .i64 a.xn,.int .i64 a.yp,.int .i64 a.yn,.slice ia a.inds.length ca,.int .i64 a.a,.int .i64 a.b],.agg #[.int .i64 b.kind,.int .i64 b.fn,.int .i64 b.role,.int .i64 b.above,.int .i64 b.xp,.int .i64 b.xn,.int .i64 b.yp,.int .i64 b.yn,.slice ib b.inds.length cb,.int .i64 b.a,.int .i64 b.b]] w (QP w []):=by
 have F:(a.kind == 0)=false:=by rw [ka];rfl
 have E:(a.kind == 1)=true:=by rw [ka];rfl
 have D:(a.kind == 2)=false:=by rw [ka];rfl
 have A:(a.kind == 5)=false:=by rw [ka];rfl
 have z:(a.kind == 6)=false:=by rw [ka];rfl
 have J:(b.kind == 0)=false:=by simpa using s
 have Y:(b.kind == 1)=false:=by simpa using M
 clear ka s M;obtain ⟨W,hW⟩:∃ W,W=(w.alloc (.cells #[.int .i64 a.kind,.int .i64 a.fn,.int .i64 a.role,.int .i64 a.above,.int .i64 a.xp,.int .i64 a.xn,.int .i64 a.yp,.int .i64 a.yn,.slice ia a.inds.length ca,.int .i64 a.a,.int .i64 a.b] 32)).alloc (.cells #[.int .i64 b.kind,.int .i64 b.fn,.int .i64 b.role,.int .i64 b.above,.int .i64 b.xp,.int .i64 b.xn,.int .i64 b.yp,.int .i64 b.yn,.slice ib b.inds.length cb,.int .i64 b.a,.int .i64 b.b] 32):=⟨_,rfl⟩;have HW:Hid (W=(w.alloc (.cells #[.int .i64 a.kind,.int .i64 a.fn,.int .i64 a.role,.int .i64 a.above,.int .i64 a.xp,.int .i64 a.xn,.int .i64 a.yp,.int .i64 a.yn,.slice ia a.inds.length ca,.int .i64 a.a,.int .i64 a.b] 32)).alloc (.cells #[.int .i64 b.kind,.int .i64 b.fn,.int .i64 b.role,.int .i64 b.above,.int .i64 b.xp,.int .i64 b.xn,.int .i64 b.yp,.int .i64 b.yn,.slice ib b.inds.length cb,.int .i64 b.a,.int .i64 b.b] 32)):=hW;have m:Below w.heap.size w W:=by rw [hW];exact ((Below.refl _ _).alloc (Nat.le_refl _) _).alloc (by simp) _
 have G:W.heap.size=w.heap.size+2:=by rw [hW];simp
 have h:BoxK 32 W w.heap.size a.kind a.fn a.role a.above a.xp a.xn a.yp a.yn (.slice ia a.inds.length ca) a.a a.b:=by
  rw [hW];exact (BoxK.new 32 w _ _ _ _ _ _ _ _ _ _ _).below ((Below.refl _ _).alloc (Nat.le_refl _) _) (by simp)
 have d:BoxK 32 W (w.heap.size+1) b.kind b.fn b.role b.above b.xp b.xn b.yp b.yn (.slice ib b.inds.length cb) b.a b.b:=by
  rw [hW];have:=BoxK.new 32 (w.alloc (.cells #[.int .i64 a.kind,.int .i64 a.fn,.int .i64 a.role,.int .i64 a.above,.int .i64 a.xp,.int .i64 a.xn,.int .i64 a.yp,.int .i64 a.yn,.slice ia a.inds.length ca,.int .i64 a.a,.int .i64 a.b] 32)) b.kind b.fn b.role b.above b.xp b.xn b.yp b.yn (.slice ib b.inds.length cb) b.a b.b;rw [show (w.alloc (.cells #[.int .i64 a.kind,.int .i64 a.fn,.int .i64 a.role,.int .i64 a.above,.int .i64 a.xp,.int .i64 a.xn,.int .i64 a.yp,.int .i64 a.yn,.slice ia a.inds.length ca,.int .i64 a.a,.int .i64 a.b] 32)).heap.size=w.heap.size+1 from by simp] at this;exact this
 have HB:Hid (∀ V,Below W.heap.size W V→BoxK 32 V w.heap.size a.kind a.fn a.role a.above a.xp a.xn a.yp a.yn (.slice ia a.inds.length ca) a.a a.b∧BoxK 32 V (w.heap.size+1) b.kind b.fn b.role b.above b.xp b.xn b.yp b.yn (.slice ib b.inds.length cb) b.a b.b):=fun V hV=>⟨h.below hV (by omega),d.below hV (by omega)⟩
 have HF:Hid (∀ V,Below W.heap.size W V→Below w.heap.size w V):=fun V hV=>m.trans (hV.mono (by omega))
 have H0:Hid (Below W.heap.size W W):=Below.refl _ _;clear hW m h d;obtain ⟨y0,y1,y2,y3,y4,y5,y6,y7,y8,y9,t⟩:=(HB.out _ H0.out).1.cells;obtain ⟨v0,v1,v2,v3,v4,v5,v6,v7,v8,v9,u⟩:=(HB.out _ H0.out).2.cells;go_enter Try.func91, Try.ntmps91;go_upto_region 1 with fail;rw [← HW.out];go_wp2_with fail;go_ret;exact ⟨none,0,rfl,RdZ.nil _ _ _,HF.out _ H0.out⟩
set_option maxRecDepth 100000 in
set_option maxHeartbeats 8000000 in
theorem l7one_n2 (a b:CL) (ka:a.kind=2) (I:b.kind≠3) (H:b.kind≠4) {ia ib:Option Addr} {ca cb:Nat} {w:World} :
    Calls Try.prog 91 #[.agg #[.int .i64 a.kind,.int .i64 a.fn,.int .i64 a.role,.int .i64 a.above,.int .i64 a.xp,.int .i64 a.xn,.int .i64 a.yp,.int .i64 a.yn,.slice ia a.inds.length ca,.int .i64 a.a,.int .i64 a.b],.agg #[.int .i64 b.kind,.int .i64 b.fn,.int .i64 b.role,.int .i64 b.above,.int .i64 b.xp,.int .i64 b.xn,.int .i64 b.yp,.int .i64 b.yn,.slice ib b.inds.length cb,.int .i64 b.a,.int .i64 b.b]] w (QP w []):=by
 have F:(a.kind == 0)=false:=by rw [ka];rfl
 have E:(a.kind == 1)=false:=by rw [ka];rfl
 have D:(a.kind == 2)=true:=by rw [ka];rfl
 have A:(a.kind == 5)=false:=by rw [ka];rfl
 have z:(a.kind == 6)=false:=by rw [ka];rfl
 have T:(b.kind == 3)=false:=by simpa using I
 have R:(b.kind == 4)=false:=by simpa using H
 clear ka I H;obtain ⟨W,hW⟩:∃ W,W=(w.alloc (.cells #[.int .i64 a.kind,.int .i64 a.fn,.int .i64 a.role,.int .i64 a.above,.int .i64 a.xp,.int .i64 a.xn,.int .i64 a.yp,.int .i64 a.yn,.slice ia a.inds.length ca,.int .i64 a.a,.int .i64 a.b] 32)).alloc (.cells #[.int .i64 b.kind,.int .i64 b.fn,.int .i64 b.role,.int .i64 b.above,.int .i64 b.xp,.int .i64 b.xn,.int .i64 b.yp,.int .i64 b.yn,.slice ib b.inds.length cb,.int .i64 b.a,.int .i64 b.b] 32):=⟨_,rfl⟩;have HW:Hid (W=(w.alloc (.cells #[.int .i64 a.kind,.int .i64 a.fn,.int .i64 a.role,.int .i64 a.above,.int .i64 a.xp,.int .i64 a.xn,.int .i64 a.yp,.int .i64 a.yn,.slice ia a.inds.length ca,.int .i64 a.a,.int .i64 a.b] 32)).alloc (.cells #[.int .i64 b.kind,.int .i64 b.fn,.int .i64 b.role,.int .i64 b.above,.int .i64 b.xp,.int .i64 b.xn,.int .i64 b.yp,.int .i64 b.yn,.slice ib b.inds.length cb,.int .i64 b.a,.int .i64 b.b] 32)):=hW;have m:Below w.heap.size w W:=by rw [hW];exact ((Below.refl _ _).alloc (Nat.le_refl _) _).alloc (by simp) _
 have G:W.heap.size=w.heap.size+2:=by rw [hW];simp
 have h:BoxK 32 W w.heap.size a.kind a.fn a.role a.above a.xp a.xn a.yp a.yn (.slice ia a.inds.length ca) a.a a.b:=by
  rw [hW];exact (BoxK.new 32 w _ _ _ _ _ _ _ _ _ _ _).below ((Below.refl _ _).alloc (Nat.le_refl _) _) (by simp)
 have d:BoxK 32 W (w.heap.size+1) b.kind b.fn b.role b.above b.xp b.xn b.yp b.yn (.slice ib b.inds.length cb) b.a b.b:=by
  rw [hW];have:=BoxK.new 32 (w.alloc (.cells #[.int .i64 a.kind,.int .i64 a.fn,.int .i64 a.role,.int .i64 a.above,.int .i64 a.xp,.int .i64 a.xn,.int .i64 a.yp,.int .i64 a.yn,.slice ia a.inds.length ca,.int .i64 a.a,.int .i64 a.b] 32)) b.kind b.fn b.role b.above b.xp b.xn b.yp b.yn (.slice ib b.inds.length cb) b.a b.b;rw [show (w.alloc (.cells #[.int .i64 a.kind,.int .i64 a.fn,.int .i64 a.role,.int .i64 a.above,.int .i64 a.xp,.int .i64 a.xn,.int .i64 a.yp,.int .i64 a.yn,.slice ia a.inds.length ca,.int .i64 a.a,.int .i64 a.b] 32)).heap.size=w.heap.size+1 from by simp] at this;exact this
 have HB:Hid (∀ V,Below W.heap.size W V→BoxK 32 V w.heap.size a.kind a.fn a.role a.above a.xp a.xn a.yp a.yn (.slice ia a.inds.length ca) a.a a.b∧BoxK 32 V (w.heap.size+1) b.kind b.fn b.role b.above b.xp b.xn b.yp b.yn (.slice ib b.inds.length cb) b.a b.b):=fun V hV=>⟨h.below hV (by omega),d.below hV (by omega)⟩
 have HF:Hid (∀ V,Below W.heap.size W V→Below w.heap.size w V):=fun V hV=>m.trans (hV.mono (by omega))
 have H0:Hid (Below W.heap.size W W):=Below.refl _ _;clear hW m h d;obtain ⟨y0,y1,y2,y3,y4,y5,y6,y7,y8,y9,t⟩:=(HB.out _ H0.out).1.cells;obtain ⟨v0,v1,v2,v3,v4,v5,v6,v7,v8,v9,u⟩:=(HB.out _ H0.out).2.cells;go_enter Try.func91, Try.ntmps91;go_upto_region 1 with fail;rw [← HW.out];go_wp2_with fail;go_ret;exact ⟨none,0,rfl,RdZ.nil _ _ _,HF.out _ H0.out⟩
set_option maxRecDepth 100000 in
set_option maxHeartbeats 8000000 in
theorem l7one_n3 (a b:CL) (ka:a.kind=3)  {ia ib:Option Addr} {ca cb:Nat} {w:World} :
    Calls Try.prog 91 #[.agg #[.int .i64 a.kind,.int .i64 a.fn,.int .i64 a.role,.int .i64 a.above,.int .i64 a.xp,.int .i64 a.xn,.int .i64 a.yp,.int .i64 a.yn,.slice ia a.inds.length ca,.int .i64 a.a,.int .i64 a.b],.agg #[.int .i64 b.kind,.int .i64 b.fn,.int .i64 b.role,.int .i64 b.above,.int .i64 b.xp,.int .i64 b.xn,.int .i64 b.yp,.int .i64 b.yn,.slice ib b.inds.length cb,.int .i64 b.a,.int .i64 b.b]] w (QP w []):=by
 have F:(a.kind == 0)=false:=by rw [ka];rfl
 have E:(a.kind == 1)=false:=by rw [ka];rfl
 have D:(a.kind == 2)=false:=by rw [ka];rfl
 have A:(a.kind == 5)=false:=by rw [ka];rfl
 have z:(a.kind == 6)=false:=by rw [ka];rfl
 clear ka;obtain ⟨W,hW⟩:∃ W,W=(w.alloc (.cells #[.int .i64 a.kind,.int .i64 a.fn,.int .i64 a.role,.int .i64 a.above,.int .i64 a.xp,.int .i64 a.xn,.int .i64 a.yp,.int .i64 a.yn,.slice ia a.inds.length ca,.int .i64 a.a,.int .i64 a.b] 32)).alloc (.cells #[.int .i64 b.kind,.int .i64 b.fn,.int .i64 b.role,.int .i64 b.above,.int .i64 b.xp,.int .i64 b.xn,.int .i64 b.yp,.int .i64 b.yn,.slice ib b.inds.length cb,.int .i64 b.a,.int .i64 b.b] 32):=⟨_,rfl⟩;have HW:Hid (W=(w.alloc (.cells #[.int .i64 a.kind,.int .i64 a.fn,.int .i64 a.role,.int .i64 a.above,.int .i64 a.xp,.int .i64 a.xn,.int .i64 a.yp,.int .i64 a.yn,.slice ia a.inds.length ca,.int .i64 a.a,.int .i64 a.b] 32)).alloc (.cells #[.int .i64 b.kind,.int .i64 b.fn,.int .i64 b.role,.int .i64 b.above,.int .i64 b.xp,.int .i64 b.xn,.int .i64 b.yp,.int .i64 b.yn,.slice ib b.inds.length cb,.int .i64 b.a,.int .i64 b.b] 32)):=hW;have m:Below w.heap.size w W:=by rw [hW];exact ((Below.refl _ _).alloc (Nat.le_refl _) _).alloc (by simp) _
 have G:W.heap.size=w.heap.size+2:=by rw [hW];simp
 have h:BoxK 32 W w.heap.size a.kind a.fn a.role a.above a.xp a.xn a.yp a.yn (.slice ia a.inds.length ca) a.a a.b:=by
  rw [hW];exact (BoxK.new 32 w _ _ _ _ _ _ _ _ _ _ _).below ((Below.refl _ _).alloc (Nat.le_refl _) _) (by simp)
 have d:BoxK 32 W (w.heap.size+1) b.kind b.fn b.role b.above b.xp b.xn b.yp b.yn (.slice ib b.inds.length cb) b.a b.b:=by
  rw [hW];have:=BoxK.new 32 (w.alloc (.cells #[.int .i64 a.kind,.int .i64 a.fn,.int .i64 a.role,.int .i64 a.above,.int .i64 a.xp,.int .i64 a.xn,.int .i64 a.yp,.int .i64 a.yn,.slice ia a.inds.length ca,.int .i64 a.a,.int .i64 a.b] 32)) b.kind b.fn b.role b.above b.xp b.xn b.yp b.yn (.slice ib b.inds.length cb) b.a b.b;rw [show (w.alloc (.cells #[.int .i64 a.kind,.int .i64 a.fn,.int .i64 a.role,.int .i64 a.above,.int .i64 a.xp,.int .i64 a.xn,.int .i64 a.yp,.int .i64 a.yn,.slice ia a.inds.length ca,.int .i64 a.a,.int .i64 a.b] 32)).heap.size=w.heap.size+1 from by simp] at this;exact this
 have HB:Hid (∀ V,Below W.heap.size W V→BoxK 32 V w.heap.size a.kind a.fn a.role a.above a.xp a.xn a.yp a.yn (.slice ia a.inds.length ca) a.a a.b∧BoxK 32 V (w.heap.size+1) b.kind b.fn b.role b.above b.xp b.xn b.yp b.yn (.slice ib b.inds.length cb) b.a b.b):=fun V hV=>⟨h.below hV (by omega),d.below hV (by omega)⟩
 have HF:Hid (∀ V,Below W.heap.size W V→Below w.heap.size w V):=fun V hV=>m.trans (hV.mono (by omega))
 have H0:Hid (Below W.heap.size W W):=Below.refl _ _;clear hW m h d;obtain ⟨y0,y1,y2,y3,y4,y5,y6,y7,y8,y9,t⟩:=(HB.out _ H0.out).1.cells;obtain ⟨v0,v1,v2,v3,v4,v5,v6,v7,v8,v9,u⟩:=(HB.out _ H0.out).2.cells;go_enter Try.func91, Try.ntmps91;go_upto_region 1 with fail;rw [← HW.out];go_wp2_with fail;go_ret;exact ⟨none,0,rfl,RdZ.nil _ _ _,HF.out _ H0.out⟩
set_option maxRecDepth 100000 in
set_option maxHeartbeats 8000000 in
theorem l7one_n4 (a b:CL) (ka:a.kind=4)  {ia ib:Option Addr} {ca cb:Nat} {w:World} :
    Calls Try.prog 91 #[.agg #[.int .i64 a.kind,.int .i64 a.fn,.int .i64 a.role,.int .i64 a.above,.int .i64 a.xp,.int .i64 a.xn,.int .i64 a.yp,.int .i64 a.yn,.slice ia a.inds.length ca,.int .i64 a.a,.int .i64 a.b],.agg #[.int .i64 b.kind,.int .i64 b.fn,.int .i64 b.role,.int .i64 b.above,.int .i64 b.xp,.int .i64 b.xn,.int .i64 b.yp,.int .i64 b.yn,.slice ib b.inds.length cb,.int .i64 b.a,.int .i64 b.b]] w (QP w []):=by
 have F:(a.kind == 0)=false:=by rw [ka];rfl
 have E:(a.kind == 1)=false:=by rw [ka];rfl
 have D:(a.kind == 2)=false:=by rw [ka];rfl
 have A:(a.kind == 5)=false:=by rw [ka];rfl
 have z:(a.kind == 6)=false:=by rw [ka];rfl
 clear ka;obtain ⟨W,hW⟩:∃ W,W=(w.alloc (.cells #[.int .i64 a.kind,.int .i64 a.fn,.int .i64 a.role,.int .i64 a.above,.int .i64 a.xp,.int .i64 a.xn,.int .i64 a.yp,.int .i64 a.yn,.slice ia a.inds.length ca,.int .i64 a.a,.int .i64 a.b] 32)).alloc (.cells #[.int .i64 b.kind,.int .i64 b.fn,.int .i64 b.role,.int .i64 b.above,.int .i64 b.xp,.int .i64 b.xn,.int .i64 b.yp,.int .i64 b.yn,.slice ib b.inds.length cb,.int .i64 b.a,.int .i64 b.b] 32):=⟨_,rfl⟩;have HW:Hid (W=(w.alloc (.cells #[.int .i64 a.kind,.int .i64 a.fn,.int .i64 a.role,.int .i64 a.above,.int .i64 a.xp,.int .i64 a.xn,.int .i64 a.yp,.int .i64 a.yn,.slice ia a.inds.length ca,.int .i64 a.a,.int .i64 a.b] 32)).alloc (.cells #[.int .i64 b.kind,.int .i64 b.fn,.int .i64 b.role,.int .i64 b.above,.int .i64 b.xp,.int .i64 b.xn,.int .i64 b.yp,.int .i64 b.yn,.slice ib b.inds.length cb,.int .i64 b.a,.int .i64 b.b] 32)):=hW;have m:Below w.heap.size w W:=by rw [hW];exact ((Below.refl _ _).alloc (Nat.le_refl _) _).alloc (by simp) _
 have G:W.heap.size=w.heap.size+2:=by rw [hW];simp
 have h:BoxK 32 W w.heap.size a.kind a.fn a.role a.above a.xp a.xn a.yp a.yn (.slice ia a.inds.length ca) a.a a.b:=by
  rw [hW];exact (BoxK.new 32 w _ _ _ _ _ _ _ _ _ _ _).below ((Below.refl _ _).alloc (Nat.le_refl _) _) (by simp)
 have d:BoxK 32 W (w.heap.size+1) b.kind b.fn b.role b.above b.xp b.xn b.yp b.yn (.slice ib b.inds.length cb) b.a b.b:=by
  rw [hW];have:=BoxK.new 32 (w.alloc (.cells #[.int .i64 a.kind,.int .i64 a.fn,.int .i64 a.role,.int .i64 a.above,.int .i64 a.xp,.int .i64 a.xn,.int .i64 a.yp,.int .i64 a.yn,.slice ia a.inds.length ca,.int .i64 a.a,.int .i64 a.b] 32)) b.kind b.fn b.role b.above b.xp b.xn b.yp b.yn (.slice ib b.inds.length cb) b.a b.b;rw [show (w.alloc (.cells #[.int .i64 a.kind,.int .i64 a.fn,.int .i64 a.role,.int .i64 a.above,.int .i64 a.xp,.int .i64 a.xn,.int .i64 a.yp,.int .i64 a.yn,.slice ia a.inds.length ca,.int .i64 a.a,.int .i64 a.b] 32)).heap.size=w.heap.size+1 from by simp] at this;exact this
 have HB:Hid (∀ V,Below W.heap.size W V→BoxK 32 V w.heap.size a.kind a.fn a.role a.above a.xp a.xn a.yp a.yn (.slice ia a.inds.length ca) a.a a.b∧BoxK 32 V (w.heap.size+1) b.kind b.fn b.role b.above b.xp b.xn b.yp b.yn (.slice ib b.inds.length cb) b.a b.b):=fun V hV=>⟨h.below hV (by omega),d.below hV (by omega)⟩
 have HF:Hid (∀ V,Below W.heap.size W V→Below w.heap.size w V):=fun V hV=>m.trans (hV.mono (by omega))
 have H0:Hid (Below W.heap.size W W):=Below.refl _ _;clear hW m h d;obtain ⟨y0,y1,y2,y3,y4,y5,y6,y7,y8,y9,t⟩:=(HB.out _ H0.out).1.cells;obtain ⟨v0,v1,v2,v3,v4,v5,v6,v7,v8,v9,u⟩:=(HB.out _ H0.out).2.cells;go_enter Try.func91, Try.ntmps91;go_upto_region 1 with fail;rw [← HW.out];go_wp2_with fail;go_ret;exact ⟨none,0,rfl,RdZ.nil _ _ _,HF.out _ H0.out⟩
set_option maxRecDepth 100000 in
set_option maxHeartbeats 8000000 in
theorem l7one_n5 (a b:CL) (ka:a.kind=5) (L:b.kind≠5) (s:b.kind≠0) {ia ib:Option Addr} {ca cb:Nat} {w:World} :
    Calls Try.prog 91 #[.agg #[.int .i64 a.kind,.int .i64 a.fn,.int .i64 a.role,.int .i64 a.above,.int .i64 a.xp,.int .i64 a.xn,.int .i64 a.yp,.int .i64 a.yn,.slice ia a.inds.length ca,.int .i64 a.a,.int .i64 a.b],.agg #[.int .i64 b.kind,.int .i64 b.fn,.int .i64 b.role,.int .i64 b.above,.int .i64 b.xp,.int .i64 b.xn,.int .i64 b.yp,.int .i64 b.yn,.slice ib b.inds.length cb,.int .i64 b.a,.int .i64 b.b]] w (QP w []):=by
 have F:(a.kind == 0)=false:=by rw [ka];rfl
 have E:(a.kind == 1)=false:=by rw [ka];rfl
 have D:(a.kind == 2)=false:=by rw [ka];rfl
 have A:(a.kind == 5)=true:=by rw [ka];rfl
 have z:(a.kind == 6)=false:=by rw [ka];rfl
 have X:(b.kind == 5)=false:=by simpa using L
 have J:(b.kind == 0)=false:=by simpa using s
 clear ka L s;obtain ⟨W,hW⟩:∃ W,W=(w.alloc (.cells #[.int .i64 a.kind,.int .i64 a.fn,.int .i64 a.role,.int .i64 a.above,.int .i64 a.xp,.int .i64 a.xn,.int .i64 a.yp,.int .i64 a.yn,.slice ia a.inds.length ca,.int .i64 a.a,.int .i64 a.b] 32)).alloc (.cells #[.int .i64 b.kind,.int .i64 b.fn,.int .i64 b.role,.int .i64 b.above,.int .i64 b.xp,.int .i64 b.xn,.int .i64 b.yp,.int .i64 b.yn,.slice ib b.inds.length cb,.int .i64 b.a,.int .i64 b.b] 32):=⟨_,rfl⟩;have HW:Hid (W=(w.alloc (.cells #[.int .i64 a.kind,.int .i64 a.fn,.int .i64 a.role,.int .i64 a.above,.int .i64 a.xp,.int .i64 a.xn,.int .i64 a.yp,.int .i64 a.yn,.slice ia a.inds.length ca,.int .i64 a.a,.int .i64 a.b] 32)).alloc (.cells #[.int .i64 b.kind,.int .i64 b.fn,.int .i64 b.role,.int .i64 b.above,.int .i64 b.xp,.int .i64 b.xn,.int .i64 b.yp,.int .i64 b.yn,.slice ib b.inds.length cb,.int .i64 b.a,.int .i64 b.b] 32)):=hW;have m:Below w.heap.size w W:=by rw [hW];exact ((Below.refl _ _).alloc (Nat.le_refl _) _).alloc (by simp) _
 have G:W.heap.size=w.heap.size+2:=by rw [hW];simp
 have h:BoxK 32 W w.heap.size a.kind a.fn a.role a.above a.xp a.xn a.yp a.yn (.slice ia a.inds.length ca) a.a a.b:=by
  rw [hW];exact (BoxK.new 32 w _ _ _ _ _ _ _ _ _ _ _).below ((Below.refl _ _).alloc (Nat.le_refl _) _) (by simp)
 have d:BoxK 32 W (w.heap.size+1) b.kind b.fn b.role b.above b.xp b.xn b.yp b.yn (.slice ib b.inds.length cb) b.a b.b:=by
  rw [hW];have:=BoxK.new 32 (w.alloc (.cells #[.int .i64 a.kind,.int .i64 a.fn,.int .i64 a.role,.int .i64 a.above,.int .i64 a.xp,.int .i64 a.xn,.int .i64 a.yp,.int .i64 a.yn,.slice ia a.inds.length ca,.int .i64 a.a,.int .i64 a.b] 32)) b.kind b.fn b.role b.above b.xp b.xn b.yp b.yn (.slice ib b.inds.length cb) b.a b.b;rw [show (w.alloc (.cells #[.int .i64 a.kind,.int .i64 a.fn,.int .i64 a.role,.int .i64 a.above,.int .i64 a.xp,.int .i64 a.xn,.int .i64 a.yp,.int .i64 a.yn,.slice ia a.inds.length ca,.int .i64 a.a,.int .i64 a.b] 32)).heap.size=w.heap.size+1 from by simp] at this;exact this
 have HB:Hid (∀ V,Below W.heap.size W V→BoxK 32 V w.heap.size a.kind a.fn a.role a.above a.xp a.xn a.yp a.yn (.slice ia a.inds.length ca) a.a a.b∧BoxK 32 V (w.heap.size+1) b.kind b.fn b.role b.above b.xp b.xn b.yp b.yn (.slice ib b.inds.length cb) b.a b.b):=fun V hV=>⟨h.below hV (by omega),d.below hV (by omega)⟩
 have HF:Hid (∀ V,Below W.heap.size W V→Below w.heap.size w V):=fun V hV=>m.trans (hV.mono (by omega))
 have H0:Hid (Below W.heap.size W W):=Below.refl _ _;clear hW m h d;obtain ⟨y0,y1,y2,y3,y4,y5,y6,y7,y8,y9,t⟩:=(HB.out _ H0.out).1.cells;obtain ⟨v0,v1,v2,v3,v4,v5,v6,v7,v8,v9,u⟩:=(HB.out _ H0.out).2.cells;go_enter Try.func91, Try.ntmps91;go_upto_region 1 with fail;rw [← HW.out];go_wp2_with fail;go_ret;exact ⟨none,0,rfl,RdZ.nil _ _ _,HF.out _ H0.out⟩
set_option maxRecDepth 100000 in
set_option maxHeartbeats 8000000 in
theorem l7one_n6 (a b:CL) (ka:a.kind=6) (I:b.kind≠3) (H:b.kind≠4) {ia ib:Option Addr} {ca cb:Nat} {w:World} :
    Calls Try.prog 91 #[.agg #[.int .i64 a.kind,.int .i64 a.fn,.int .i64 a.role,.int .i64 a.above,.int .i64 a.xp,.int .i64 a.xn,.int .i64 a.yp,.int .i64 a.yn,.slice ia a.inds.length ca,.int .i64 a.a,.int .i64 a.b],.agg #[.int .i64 b.kind,.int .i64 b.fn,.int .i64 b.role,.int .i64 b.above,.int .i64 b.xp,.int .i64 b.xn,.int .i64 b.yp,.int .i64 b.yn,.slice ib b.inds.length cb,.int .i64 b.a,.int .i64 b.b]] w (QP w []):=by
 have F:(a.kind == 0)=false:=by rw [ka];rfl
 have E:(a.kind == 1)=false:=by rw [ka];rfl
 have D:(a.kind == 2)=false:=by rw [ka];rfl
 have A:(a.kind == 5)=false:=by rw [ka];rfl
 have z:(a.kind == 6)=true:=by rw [ka];rfl
 have T:(b.kind == 3)=false:=by simpa using I
 have R:(b.kind == 4)=false:=by simpa using H
 clear ka I H;obtain ⟨W,hW⟩:∃ W,W=(w.alloc (.cells #[.int .i64 a.kind,.int .i64 a.fn,.int .i64 a.role,.int .i64 a.above,.int .i64 a.xp,.int .i64 a.xn,.int .i64 a.yp,.int .i64 a.yn,.slice ia a.inds.length ca,.int .i64 a.a,.int .i64 a.b] 32)).alloc (.cells #[.int .i64 b.kind,.int .i64 b.fn,.int .i64 b.role,.int .i64 b.above,.int .i64 b.xp,.int .i64 b.xn,.int .i64 b.yp,.int .i64 b.yn,.slice ib b.inds.length cb,.int .i64 b.a,.int .i64 b.b] 32):=⟨_,rfl⟩;have HW:Hid (W=(w.alloc (.cells #[.int .i64 a.kind,.int .i64 a.fn,.int .i64 a.role,.int .i64 a.above,.int .i64 a.xp,.int .i64 a.xn,.int .i64 a.yp,.int .i64 a.yn,.slice ia a.inds.length ca,.int .i64 a.a,.int .i64 a.b] 32)).alloc (.cells #[.int .i64 b.kind,.int .i64 b.fn,.int .i64 b.role,.int .i64 b.above,.int .i64 b.xp,.int .i64 b.xn,.int .i64 b.yp,.int .i64 b.yn,.slice ib b.inds.length cb,.int .i64 b.a,.int .i64 b.b] 32)):=hW;have m:Below w.heap.size w W:=by rw [hW];exact ((Below.refl _ _).alloc (Nat.le_refl _) _).alloc (by simp) _
 have G:W.heap.size=w.heap.size+2:=by rw [hW];simp
 have h:BoxK 32 W w.heap.size a.kind a.fn a.role a.above a.xp a.xn a.yp a.yn (.slice ia a.inds.length ca) a.a a.b:=by
  rw [hW];exact (BoxK.new 32 w _ _ _ _ _ _ _ _ _ _ _).below ((Below.refl _ _).alloc (Nat.le_refl _) _) (by simp)
 have d:BoxK 32 W (w.heap.size+1) b.kind b.fn b.role b.above b.xp b.xn b.yp b.yn (.slice ib b.inds.length cb) b.a b.b:=by
  rw [hW];have:=BoxK.new 32 (w.alloc (.cells #[.int .i64 a.kind,.int .i64 a.fn,.int .i64 a.role,.int .i64 a.above,.int .i64 a.xp,.int .i64 a.xn,.int .i64 a.yp,.int .i64 a.yn,.slice ia a.inds.length ca,.int .i64 a.a,.int .i64 a.b] 32)) b.kind b.fn b.role b.above b.xp b.xn b.yp b.yn (.slice ib b.inds.length cb) b.a b.b;rw [show (w.alloc (.cells #[.int .i64 a.kind,.int .i64 a.fn,.int .i64 a.role,.int .i64 a.above,.int .i64 a.xp,.int .i64 a.xn,.int .i64 a.yp,.int .i64 a.yn,.slice ia a.inds.length ca,.int .i64 a.a,.int .i64 a.b] 32)).heap.size=w.heap.size+1 from by simp] at this;exact this
 have HB:Hid (∀ V,Below W.heap.size W V→BoxK 32 V w.heap.size a.kind a.fn a.role a.above a.xp a.xn a.yp a.yn (.slice ia a.inds.length ca) a.a a.b∧BoxK 32 V (w.heap.size+1) b.kind b.fn b.role b.above b.xp b.xn b.yp b.yn (.slice ib b.inds.length cb) b.a b.b):=fun V hV=>⟨h.below hV (by omega),d.below hV (by omega)⟩
 have HF:Hid (∀ V,Below W.heap.size W V→Below w.heap.size w V):=fun V hV=>m.trans (hV.mono (by omega))
 have H0:Hid (Below W.heap.size W W):=Below.refl _ _;clear hW m h d;obtain ⟨y0,y1,y2,y3,y4,y5,y6,y7,y8,y9,t⟩:=(HB.out _ H0.out).1.cells;obtain ⟨v0,v1,v2,v3,v4,v5,v6,v7,v8,v9,u⟩:=(HB.out _ H0.out).2.cells;go_enter Try.func91, Try.ntmps91;go_upto_region 1 with fail;rw [← HW.out];go_wp2_with fail;go_ret;exact ⟨none,0,rfl,RdZ.nil _ _ _,HF.out _ H0.out⟩
theorem l7one_any (a b:CL) {ia ib:Option Addr} {ca cb la O lb N:Nat} {w:World} (ha:a.ok=true) (hb:b.ok=true) (h1:RP la O w ia a.inds.length ca a.inds) (h2:RP lb N w ib b.inds.length cb b.inds) (r:O≤w.heap.size) (o:N≤w.heap.size) :
    Calls Try.prog 91 #[.agg #[.int .i64 a.kind,.int .i64 a.fn,.int .i64 a.role,.int .i64 a.above,.int .i64 a.xp,.int .i64 a.xn,.int .i64 a.yp,.int .i64 a.yn,.slice ia a.inds.length ca,.int .i64 a.a,.int .i64 a.b],.agg #[.int .i64 b.kind,.int .i64 b.fn,.int .i64 b.role,.int .i64 b.above,.int .i64 b.xp,.int .i64 b.xn,.int .i64 b.yp,.int .i64 b.yn,.slice ib b.inds.length cb,.int .i64 b.a,.int .i64 b.b]] w (QP w (oneF a b).toList):=by
 obtain ⟨⟨a0,Z⟩,_⟩:=ok_facts ha;by_cases h00:a.kind=0∧b.kind=0
 · exact l7one_00 a b h00.1 h00.2 ha hb h1 h2 r o (oneF_00 h00.1 h00.2)
 by_cases h10:a.kind=1∧b.kind=0
 · exact l7one_10 a b h10.1 h10.2 ha hb h1 h2 r o (oneF_10 h10.1 h10.2)
 by_cases h11:a.kind=1∧b.kind=1
 · exact l7one_11 a b h11.1 h11.2 ha hb h1 h2 r o (oneF_11 h11.1 h11.2)
 by_cases h23:a.kind=2∧b.kind=3
 · exact l7one_23 a b h23.1 h23.2 ha hb h1 h2 r o (oneF_23 h23.1 h23.2)
 by_cases h24:a.kind=2∧b.kind=4
 · exact l7one_24 a b h24.1 h24.2 ha hb h1 h2 r o (oneF_24 h24.1 h24.2)
 by_cases h55:a.kind=5∧b.kind=5
 · exact l7one_55 a b h55.1 h55.2 ha hb h1 h2 r o (oneF_55 h55.1 h55.2)
 by_cases h50:a.kind=5∧b.kind=0
 · exact l7one_50 a b h50.1 h50.2 ha hb h1 h2 r o (oneF_50 h50.1 h50.2)
 by_cases h63:a.kind=6∧b.kind=3
 · exact l7one_63 a b h63.1 h63.2 ha hb h1 h2 r o (oneF_63 h63.1 h63.2)
 by_cases h64:a.kind=6∧b.kind=4
 · exact l7one_64 a b h64.1 h64.2 ha hb h1 h2 r o (oneF_64 h64.1 h64.2)
 have U:oneF a b=none:=by unfold oneF;rw [if_neg h00,if_neg h10,if_neg h11,if_neg h23,if_neg h24,if_neg h55,if_neg h50,if_neg h63,if_neg h64]
 rw [U];have e1:a.kind=0∨a.kind=1∨a.kind=2∨a.kind=3∨a.kind=4∨a.kind=5∨a.kind=6:=by omega
 rcases e1 with e | e | e | e | e | e | e
 · exact l7one_n0 a b e (fun q=>h00 ⟨e,q⟩)
 · exact l7one_n1 a b e (fun q=>h10 ⟨e,q⟩) (fun q=>h11 ⟨e,q⟩)
 · exact l7one_n2 a b e (fun q=>h23 ⟨e,q⟩) (fun q=>h24 ⟨e,q⟩)
 · exact l7one_n3 a b e
 · exact l7one_n4 a b e
 · exact l7one_n5 a b e (fun q=>h55 ⟨e,q⟩) (fun q=>h50 ⟨e,q⟩)
 exact l7one_n6 a b e (fun q=>h63 ⟨e,q⟩) (fun q=>h64 ⟨e,q⟩)
end Go.Proofs.Ytkjmfaohdhiiaaa
