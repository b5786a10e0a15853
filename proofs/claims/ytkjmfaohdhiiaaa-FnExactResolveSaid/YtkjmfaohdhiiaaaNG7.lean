/- Several texts in one: ResN, ResW, ResE. -/
import Derived.Test.YtkjmfaohdhiiaaaResP
import Derived.Test.YtkjmfaohdhiiaaaClLaw
import Derived.Test.YtkjmfaohdhiiaaaNG1
namespace Go.Proofs.Ytkjmfaohdhiiaaa

section
open Go.RowKit
set_option linter.unusedVariables false
def clV (c:CL) (s:Value):Value:=.agg #[.int .i64 c.kind,.int .i64 c.fn,.int .i64 c.role,.int .i64 c.above,.int .i64 c.xp,.int .i64 c.xn,.int .i64 c.yp,.int .i64 c.yn,s,.int .i64 c.a,.int .i64 c.b]
theorem nextC_one {f:Int} {x y:PT} (h:noneB y.1 y.2=true):nextC f x y=oneC x:=if_pos h
theorem nextC_two {f:Int} {x y:PT} (h:noneB y.1 y.2=false):nextC f x y=⟨1,f,0,0,x.1,x.2,y.1,y.2,[],0,0⟩:=by unfold nextC;rw [h];rfl
set_option maxRecDepth 100000 in
set_option maxHeartbeats 4000000 in
theorem l7next_any (f x1 x2 y1 y2:Int) (w:World) :
    Calls Try.prog 102 #[.int .i64 f,.agg #[.int .i64 x1,.int .i64 x2],.agg #[.int .i64 y1,.int .i64 y2]] w fun e w'=>e=.returned (clV (nextC f (x1,x2) (y1,y2)) (.slice none 0 0))∧Below w.heap.size w w':=by
 obtain ⟨W,hW⟩:∃ W,W=((w.alloc (.cells #[.int .i64 x1,.int .i64 x2] 29)).alloc (.cells #[.int .i64 y1,.int .i64 y2] 29)).alloc (.cells #[.int .i64 0,.int .i64 0,.int .i64 0,.int .i64 0,.int .i64 0,.int .i64 0,.int .i64 0,.int .i64 0,.slice none 0 0,.int .i64 0,.int .i64 0] 32):=⟨_,rfl⟩;have HW:Hid (W=((w.alloc (.cells #[.int .i64 x1,.int .i64 x2] 29)).alloc (.cells #[.int .i64 y1,.int .i64 y2] 29)).alloc (.cells #[.int .i64 0,.int .i64 0,.int .i64 0,.int .i64 0,.int .i64 0,.int .i64 0,.int .i64 0,.int .i64 0,.slice none 0 0,.int .i64 0,.int .i64 0] 32)):=hW;have F:Below w.heap.size w W:=by rw [hW];exact (((Below.refl _ _).alloc (Nat.le_refl _) _).alloc (by simp) _).alloc (by simp;omega) _
 have Y:W.heap.size=w.heap.size+3:=by rw [hW];simp
 have D:BoxP 29 W w.heap.size x1 x2:=by
  rw [hW];exact ((BoxP.new 29 w x1 x2).below ((Below.refl _ _).alloc (Nat.le_refl _) _) (by simp)).below ((Below.refl _ _).alloc (Nat.le_refl _) _) (by simp;omega)
 have z:BoxP 29 W (w.heap.size+1) y1 y2:=by
  rw [hW];have:=BoxP.new 29 (w.alloc (.cells #[.int .i64 x1,.int .i64 x2] 29)) y1 y2;rw [show (w.alloc (.cells #[.int .i64 x1,.int .i64 x2] 29)).heap.size=w.heap.size+1 from by simp] at this;exact this.below ((Below.refl _ _).alloc (Nat.le_refl _) _) (by simp)
 have E:BoxK 32 W (w.heap.size+1+1) 0 0 0 0 0 0 0 0 (.slice none 0 0) 0 0:=by
  rw [hW];have:=BoxK.new 32 ((w.alloc (.cells #[.int .i64 x1,.int .i64 x2] 29)).alloc (.cells #[.int .i64 y1,.int .i64 y2] 29)) 0 0 0 0 0 0 0 0 (.slice none 0 0) 0 0;rw [show ((w.alloc (.cells #[.int .i64 x1,.int .i64 x2] 29)).alloc (.cells #[.int .i64 y1,.int .i64 y2] 29)).heap.size=w.heap.size+1+1 from by simp] at this;exact this
 have HB:Hid (∀ V,Below W.heap.size W V→BoxP 29 V w.heap.size x1 x2∧BoxP 29 V (w.heap.size+1) y1 y2∧BoxK 32 V (w.heap.size+1+1) 0 0 0 0 0 0 0 0 (.slice none 0 0) 0 0):=fun V hV=>⟨D.below hV (by omega),z.below hV (by omega),E.below hV (by omega)⟩
 have HF:Hid (∀ V,Below W.heap.size W V→Below w.heap.size w V):=fun V hV=>F.trans (hV.mono (by omega))
 have u:∀ V:World,(Instr.build 29 #[]).run Try.prog V=.ok (.agg #[.int .i64 0,.int .i64 0]) V:=fun V=>run_build V _ _ _ (by kernel_rfl)
 have t:∀ V:World,(Instr.build 32 #[(4,.agg #[.int .i64 x1,.int .i64 x2])]).run Try.prog V=.ok (.agg #[.int .i64 0,.int .i64 0,.int .i64 0,.int .i64 0,.int .i64 x1,.int .i64 x2,.int .i64 0,.int .i64 0,.slice none 0 0,.int .i64 0,.int .i64 0]) V:=fun V=>run_build V _ _ _ (by kernel_rfl)
 have r:∀ V:World,(Instr.build 32 #[(0,.int .i64 1),(1,.int .i64 f),(4,.agg #[.int .i64 x1,.int .i64 x2]),(5,.agg #[.int .i64 y1,.int .i64 y2])]).run Try.prog V=.ok (.agg #[.int .i64 1,.int .i64 f,.int .i64 0,.int .i64 0,.int .i64 x1,.int .i64 x2,.int .i64 y1,.int .i64 y2,.slice none 0 0,.int .i64 0,.int .i64 0]) V:=fun V=>run_build V _ _ _ (by kernel_rfl)
 have H0:Hid (Below W.heap.size W W):=Below.refl _ _;obtain ⟨z0,z1⟩:=D.cells;obtain ⟨z2,z3⟩:=z.cells;clear hW F D z E;go_enter Try.func102, Try.ntmps102;go_upto_region 1 with fail;rw [← HW.out];go_wp2_with fail;refine (l5none_any y1 y2 W).mono ?_;rintro e w1 ⟨rfl,X⟩;have H1:Hid (Below W.heap.size W w1):=X;clear X z0 z1 z2 z3;obtain ⟨z0,z1⟩:=(HB.out _ H1.out).1.cells;obtain ⟨z2,z3⟩:=(HB.out _ H1.out).2.1.cells;cases hn:noneB y1 y2 with
 | true =>
  have HE:Hid (nextC f (x1,x2) (y1,y2)=oneC (x1,x2)):=nextC_one hn;clear hn;obtain ⟨s0,s1,s2,s3,s4,s5,s6,s7,s8,s9,d⟩:=((HB.out _ H1.out).2.2.set11 0 0 0 0 x1 x2 0 0 (.slice none 0 0) 0 0).cells;simp only [set11] at s0 s1 s2 s3 s4 s5 s6 s7 s8 s9 d;obtain ⟨k0,k1,k2,k3,k4,k5,k6,k7,k8,k9,G⟩:=(HB.out _ H1.out).2.2.cells;have U:=(HB.out _ H1.out).2.2.frz 0;have T:=(HB.out _ H1.out).2.2.frz 1;have R:=(HB.out _ H1.out).2.2.frz 2;have O:=(HB.out _ H1.out).2.2.frz 3;have N:=(HB.out _ H1.out).2.2.frz 4;have M:=(HB.out _ H1.out).2.2.frz 5;have L:=(HB.out _ H1.out).2.2.frz 6;have J:=(HB.out _ H1.out).2.2.frz 7;have I:=(HB.out _ H1.out).2.2.frz 8;have H:=(HB.out _ H1.out).2.2.frz 9;have o:=(HB.out _ H1.out).2.2.frz 10;have m:Hid (Below w.heap.size w (set11 w1 (w.heap.size+1+1) (.int .i64 0) (.int .i64 0) (.int .i64 0) (.int .i64 0) (.int .i64 x1) (.int .i64 x2) (.int .i64 0) (.int .i64 0) (.slice none 0 0) (.int .i64 0) (.int .i64 0))):=below_set11 (HF.out _ H1.out) (by omega) _ _ _ _ _ _ _ _ _ _ _;simp only [set11] at m;go_wp2_with fail;refine bodyPost_ret (v:=.agg #[.int .i64 0,.int .i64 0,.int .i64 0,.int .i64 0,.int .i64 x1,.int .i64 x2,.int .i64 0,.int .i64 0,.slice none 0 0,.int .i64 0,.int .i64 0]) (by simp [results, Try.results102,go_sem,s0,s1,s2,s3,s4,s5,s6,s7,s8,s9,d]) rfl ⟨by rw [HE.out];rfl,m.out⟩
 | false =>
  have HE:Hid (nextC f (x1,x2) (y1,y2)=⟨1,f,0,0,x1,x2,y1,y2,[],0,0⟩):=nextC_two hn;clear hn;obtain ⟨s0,s1,s2,s3,s4,s5,s6,s7,s8,s9,d⟩:=((HB.out _ H1.out).2.2.set11 1 f 0 0 x1 x2 y1 y2 (.slice none 0 0) 0 0).cells;simp only [set11] at s0 s1 s2 s3 s4 s5 s6 s7 s8 s9 d;obtain ⟨k0,k1,k2,k3,k4,k5,k6,k7,k8,k9,G⟩:=(HB.out _ H1.out).2.2.cells;have U:=(HB.out _ H1.out).2.2.frz 0;have T:=(HB.out _ H1.out).2.2.frz 1;have R:=(HB.out _ H1.out).2.2.frz 2;have O:=(HB.out _ H1.out).2.2.frz 3;have N:=(HB.out _ H1.out).2.2.frz 4;have M:=(HB.out _ H1.out).2.2.frz 5;have L:=(HB.out _ H1.out).2.2.frz 6;have J:=(HB.out _ H1.out).2.2.frz 7;have I:=(HB.out _ H1.out).2.2.frz 8;have H:=(HB.out _ H1.out).2.2.frz 9;have o:=(HB.out _ H1.out).2.2.frz 10;have m:Hid (Below w.heap.size w (set11 w1 (w.heap.size+1+1) (.int .i64 1) (.int .i64 f) (.int .i64 0) (.int .i64 0) (.int .i64 x1) (.int .i64 x2) (.int .i64 y1) (.int .i64 y2) (.slice none 0 0) (.int .i64 0) (.int .i64 0))):=below_set11 (HF.out _ H1.out) (by omega) _ _ _ _ _ _ _ _ _ _ _;simp only [set11] at m;go_wp2_with fail;refine bodyPost_ret (v:=.agg #[.int .i64 1,.int .i64 f,.int .i64 0,.int .i64 0,.int .i64 x1,.int .i64 x2,.int .i64 y1,.int .i64 y2,.slice none 0 0,.int .i64 0,.int .i64 0]) (by simp [results, Try.results102,go_sem,s0,s1,s2,s3,s4,s5,s6,s7,s8,s9,d]) rfl ⟨by rw [HE.out];rfl,m.out⟩
set_option maxRecDepth 100000 in
set_option maxHeartbeats 4000000 in
theorem nextOrOne_any (f x1 x2 y1 y2:Int) (w:World) :
    Calls Try.prog 118 #[.int .i64 f,.agg #[.int .i64 x1,.int .i64 x2],.agg #[.int .i64 y1,.int .i64 y2]] w fun e w'=>e=.returned (clV (nextC f (x1,x2) (y1,y2)) (.slice none 0 0))∧Below w.heap.size w w':=by
 obtain ⟨W,hW⟩:∃ W,W=((w.alloc (.cells #[.int .i64 x1,.int .i64 x2] 29)).alloc (.cells #[.int .i64 y1,.int .i64 y2] 29)).alloc (.cells #[.int .i64 0,.int .i64 0,.int .i64 0,.int .i64 0,.int .i64 0,.int .i64 0,.int .i64 0,.int .i64 0,.slice none 0 0,.int .i64 0,.int .i64 0] 32):=⟨_,rfl⟩;have HW:Hid (W=((w.alloc (.cells #[.int .i64 x1,.int .i64 x2] 29)).alloc (.cells #[.int .i64 y1,.int .i64 y2] 29)).alloc (.cells #[.int .i64 0,.int .i64 0,.int .i64 0,.int .i64 0,.int .i64 0,.int .i64 0,.int .i64 0,.int .i64 0,.slice none 0 0,.int .i64 0,.int .i64 0] 32)):=hW;have F:Below w.heap.size w W:=by rw [hW];exact (((Below.refl _ _).alloc (Nat.le_refl _) _).alloc (by simp) _).alloc (by simp;omega) _
 have Y:W.heap.size=w.heap.size+3:=by rw [hW];simp
 have D:BoxP 29 W w.heap.size x1 x2:=by
  rw [hW];exact ((BoxP.new 29 w x1 x2).below ((Below.refl _ _).alloc (Nat.le_refl _) _) (by simp)).below ((Below.refl _ _).alloc (Nat.le_refl _) _) (by simp;omega)
 have z:BoxP 29 W (w.heap.size+1) y1 y2:=by
  rw [hW];have:=BoxP.new 29 (w.alloc (.cells #[.int .i64 x1,.int .i64 x2] 29)) y1 y2;rw [show (w.alloc (.cells #[.int .i64 x1,.int .i64 x2] 29)).heap.size=w.heap.size+1 from by simp] at this;exact this.below ((Below.refl _ _).alloc (Nat.le_refl _) _) (by simp)
 have E:BoxK 32 W (w.heap.size+1+1) 0 0 0 0 0 0 0 0 (.slice none 0 0) 0 0:=by
  rw [hW];have:=BoxK.new 32 ((w.alloc (.cells #[.int .i64 x1,.int .i64 x2] 29)).alloc (.cells #[.int .i64 y1,.int .i64 y2] 29)) 0 0 0 0 0 0 0 0 (.slice none 0 0) 0 0;rw [show ((w.alloc (.cells #[.int .i64 x1,.int .i64 x2] 29)).alloc (.cells #[.int .i64 y1,.int .i64 y2] 29)).heap.size=w.heap.size+1+1 from by simp] at this;exact this
 have HB:Hid (∀ V,Below W.heap.size W V→BoxP 29 V w.heap.size x1 x2∧BoxP 29 V (w.heap.size+1) y1 y2∧BoxK 32 V (w.heap.size+1+1) 0 0 0 0 0 0 0 0 (.slice none 0 0) 0 0):=fun V hV=>⟨D.below hV (by omega),z.below hV (by omega),E.below hV (by omega)⟩
 have HF:Hid (∀ V,Below W.heap.size W V→Below w.heap.size w V):=fun V hV=>F.trans (hV.mono (by omega))
 have u:∀ V:World,(Instr.build 29 #[]).run Try.prog V=.ok (.agg #[.int .i64 0,.int .i64 0]) V:=fun V=>run_build V _ _ _ (by kernel_rfl)
 have t:∀ V:World,(Instr.build 32 #[(0,.int .i64 0),(4,.agg #[.int .i64 x1,.int .i64 x2])]).run Try.prog V=.ok (.agg #[.int .i64 0,.int .i64 0,.int .i64 0,.int .i64 0,.int .i64 x1,.int .i64 x2,.int .i64 0,.int .i64 0,.slice none 0 0,.int .i64 0,.int .i64 0]) V:=fun V=>run_build V _ _ _ (by kernel_rfl)
 have r:∀ V:World,(Instr.build 32 #[(0,.int .i64 1),(1,.int .i64 f),(4,.agg #[.int .i64 x1,.int .i64 x2]),(5,.agg #[.int .i64 y1,.int .i64 y2])]).run Try.prog V=.ok (.agg #[.int .i64 1,.int .i64 f,.int .i64 0,.int .i64 0,.int .i64 x1,.int .i64 x2,.int .i64 y1,.int .i64 y2,.slice none 0 0,.int .i64 0,.int .i64 0]) V:=fun V=>run_build V _ _ _ (by kernel_rfl)
 have H0:Hid (Below W.heap.size W W):=Below.refl _ _;obtain ⟨z0,z1⟩:=D.cells;obtain ⟨z2,z3⟩:=z.cells;clear hW F D z E;go_enter Try.func118, Try.ntmps118;go_upto_region 1 with fail;rw [← HW.out];cases hn:noneB y1 y2 with
 | true =>
  have HE:Hid (nextC f (x1,x2) (y1,y2)=oneC (x1,x2)):=nextC_one hn;obtain ⟨rfl,rfl⟩:=noneB_iff.1 hn;clear hn;obtain ⟨s0,s1,s2,s3,s4,s5,s6,s7,s8,s9,d⟩:=((HB.out _ H0.out).2.2.set11 0 0 0 0 x1 x2 0 0 (.slice none 0 0) 0 0).cells;simp only [set11] at s0 s1 s2 s3 s4 s5 s6 s7 s8 s9 d;obtain ⟨k0,k1,k2,k3,k4,k5,k6,k7,k8,k9,G⟩:=(HB.out _ H0.out).2.2.cells;have U:=(HB.out _ H0.out).2.2.frz 0;have T:=(HB.out _ H0.out).2.2.frz 1;have R:=(HB.out _ H0.out).2.2.frz 2;have O:=(HB.out _ H0.out).2.2.frz 3;have N:=(HB.out _ H0.out).2.2.frz 4;have M:=(HB.out _ H0.out).2.2.frz 5;have L:=(HB.out _ H0.out).2.2.frz 6;have J:=(HB.out _ H0.out).2.2.frz 7;have I:=(HB.out _ H0.out).2.2.frz 8;have H:=(HB.out _ H0.out).2.2.frz 9;have o:=(HB.out _ H0.out).2.2.frz 10;have m:Hid (Below w.heap.size w (set11 W (w.heap.size+1+1) (.int .i64 0) (.int .i64 0) (.int .i64 0) (.int .i64 0) (.int .i64 x1) (.int .i64 x2) (.int .i64 0) (.int .i64 0) (.slice none 0 0) (.int .i64 0) (.int .i64 0))):=below_set11 (HF.out _ H0.out) (by omega) _ _ _ _ _ _ _ _ _ _ _;simp only [set11] at m;go_wp2_with fail;refine bodyPost_ret (v:=.agg #[.int .i64 0,.int .i64 0,.int .i64 0,.int .i64 0,.int .i64 x1,.int .i64 x2,.int .i64 0,.int .i64 0,.slice none 0 0,.int .i64 0,.int .i64 0]) (by simp [results, Try.results118,go_sem,s0,s1,s2,s3,s4,s5,s6,s7,s8,s9,d]) rfl ⟨by rw [HE.out];rfl,m.out⟩
 | false =>
  have HE:Hid (nextC f (x1,x2) (y1,y2)=⟨1,f,0,0,x1,x2,y1,y2,[],0,0⟩):=nextC_two hn;have Z:¬ (y1=0∧y2=0):=fun h=>by rw [noneB_iff.2 h] at hn;cases hn
  clear hn;by_cases h1:y1=0
  · have h2:¬ y2=0:=fun h=>Z ⟨h1,h⟩
    subst h1;obtain ⟨s0,s1,s2,s3,s4,s5,s6,s7,s8,s9,d⟩:=((HB.out _ H0.out).2.2.set11 1 f 0 0 x1 x2 0 y2 (.slice none 0 0) 0 0).cells;simp only [set11] at s0 s1 s2 s3 s4 s5 s6 s7 s8 s9 d;obtain ⟨k0,k1,k2,k3,k4,k5,k6,k7,k8,k9,G⟩:=(HB.out _ H0.out).2.2.cells;have U:=(HB.out _ H0.out).2.2.frz 0;have T:=(HB.out _ H0.out).2.2.frz 1;have R:=(HB.out _ H0.out).2.2.frz 2;have O:=(HB.out _ H0.out).2.2.frz 3;have N:=(HB.out _ H0.out).2.2.frz 4;have M:=(HB.out _ H0.out).2.2.frz 5;have L:=(HB.out _ H0.out).2.2.frz 6;have J:=(HB.out _ H0.out).2.2.frz 7;have I:=(HB.out _ H0.out).2.2.frz 8;have H:=(HB.out _ H0.out).2.2.frz 9;have o:=(HB.out _ H0.out).2.2.frz 10;have m:Hid (Below w.heap.size w (set11 W (w.heap.size+1+1) (.int .i64 1) (.int .i64 f) (.int .i64 0) (.int .i64 0) (.int .i64 x1) (.int .i64 x2) (.int .i64 0) (.int .i64 y2) (.slice none 0 0) (.int .i64 0) (.int .i64 0))):=below_set11 (HF.out _ H0.out) (by omega) _ _ _ _ _ _ _ _ _ _ _;simp only [set11] at m;go_wp2_with fail;refine bodyPost_ret (v:=.agg #[.int .i64 1,.int .i64 f,.int .i64 0,.int .i64 0,.int .i64 x1,.int .i64 x2,.int .i64 0,.int .i64 y2,.slice none 0 0,.int .i64 0,.int .i64 0]) (by simp [results, Try.results118,go_sem,s0,s1,s2,s3,s4,s5,s6,s7,s8,s9,d]) rfl ⟨by rw [HE.out];rfl,m.out⟩
  obtain ⟨s0,s1,s2,s3,s4,s5,s6,s7,s8,s9,d⟩:=((HB.out _ H0.out).2.2.set11 1 f 0 0 x1 x2 y1 y2 (.slice none 0 0) 0 0).cells;simp only [set11] at s0 s1 s2 s3 s4 s5 s6 s7 s8 s9 d;obtain ⟨k0,k1,k2,k3,k4,k5,k6,k7,k8,k9,G⟩:=(HB.out _ H0.out).2.2.cells;have U:=(HB.out _ H0.out).2.2.frz 0;have T:=(HB.out _ H0.out).2.2.frz 1;have R:=(HB.out _ H0.out).2.2.frz 2;have O:=(HB.out _ H0.out).2.2.frz 3;have N:=(HB.out _ H0.out).2.2.frz 4;have M:=(HB.out _ H0.out).2.2.frz 5;have L:=(HB.out _ H0.out).2.2.frz 6;have J:=(HB.out _ H0.out).2.2.frz 7;have I:=(HB.out _ H0.out).2.2.frz 8;have H:=(HB.out _ H0.out).2.2.frz 9;have o:=(HB.out _ H0.out).2.2.frz 10;have m:Hid (Below w.heap.size w (set11 W (w.heap.size+1+1) (.int .i64 1) (.int .i64 f) (.int .i64 0) (.int .i64 0) (.int .i64 x1) (.int .i64 x2) (.int .i64 y1) (.int .i64 y2) (.slice none 0 0) (.int .i64 0) (.int .i64 0))):=below_set11 (HF.out _ H0.out) (by omega) _ _ _ _ _ _ _ _ _ _ _;simp only [set11] at m;go_wp2_with fail;refine bodyPost_ret (v:=.agg #[.int .i64 1,.int .i64 f,.int .i64 0,.int .i64 0,.int .i64 x1,.int .i64 x2,.int .i64 y1,.int .i64 y2,.slice none 0 0,.int .i64 0,.int .i64 0]) (by simp [results, Try.results118,go_sem,s0,s1,s2,s3,s4,s5,s6,s7,s8,s9,d]) rfl ⟨by rw [HE.out];rfl,m.out⟩
end

section
open Go.RowKit
set_option linter.unusedVariables false
def whoI (o:Option Nat):Int:=match o with | none=>-1 | some i=>(i:Int)
set_option maxRecDepth 100000 in
set_option maxHeartbeats 4000000 in
theorem l7who_any {k f r u xp xn yp yn:Int} {ia:Option Addr} {im ic:Nat} {a b:Int} {xs:List (Int × Int)} {w:World} {lo hi:Nat} (hR:RP lo hi w ia im ic xs) (z:hi≤w.heap.size) :
    Calls Try.prog 108 #[.agg #[.int .i64 k,.int .i64 f,.int .i64 r,.int .i64 u,.int .i64 xp,.int .i64 xn,.int .i64 yp,.int .i64 yn,.slice ia im ic,.int .i64 a,.int .i64 b]] w fun e w'=>e=.returned (.int .i64 (whoI (whoN xs im)))∧Below w.heap.size w w':=by
 obtain ⟨W,hW⟩:∃ W,W=w.alloc (.cells #[.int .i64 k,.int .i64 f,.int .i64 r,.int .i64 u,.int .i64 xp,.int .i64 xn,.int .i64 yp,.int .i64 yn,.slice ia im ic,.int .i64 a,.int .i64 b] 32):=⟨_,rfl⟩;have HW:Hid (W=w.alloc (.cells #[.int .i64 k,.int .i64 f,.int .i64 r,.int .i64 u,.int .i64 xp,.int .i64 xn,.int .i64 yp,.int .i64 yn,.slice ia im ic,.int .i64 a,.int .i64 b] 32)):=hW;have h:Below w.heap.size w W:=by rw [hW];exact (Below.refl _ _).alloc (Nat.le_refl _) _
 have G:=h.size;have D:hi≤W.heap.size:=Nat.le_trans z h.size;have HR:Hid (∀ V,Below W.heap.size W V→RP lo hi V ia im ic xs):=fun V hV=>(hR.below h z).below hV D
 have m:BoxK 32 W w.heap.size k f r u xp xn yp yn (.slice ia im ic) a b:=by rw [hW];exact BoxK.new _ w _ _ _ _ _ _ _ _ _ _ _
 have E:Hid (∀ V,Below W.heap.size W V→BoxK 32 V w.heap.size k f r u xp xn yp yn (.slice ia im ic) a b):=fun V hV=>m.below hV m.lt
 have HF:Hid (∀ V,Below W.heap.size W V→Below w.heap.size w V):=fun V hV=>h.trans (hV.mono (by omega))
 have H0:Hid (Below W.heap.size W W):=Below.refl _ _;have F:=hR.fits;obtain ⟨z0,z1,z2,z3,z4,z5,z6,z7,z8,z9,s⟩:=m.cells;clear hR hW h m;go_enter Try.func108, Try.ntmps108;go_upto_region 1 with fail;rw [← HW.out];go_wp2_with fail;go_loopw [3] (fun i wr=>∃ n:Nat,n≤im∧i=.int .i64 ((n:Int) - 1)∧whoN xs im=whoN xs n∧Below W.heap.size W wr) (fun i _=>(intOf i+1).toNat)
 case atStart=>exact ⟨im,Nat.le_refl _,by first | rfl | go_num,rfl,H0.out⟩
 case round =>
  obtain ⟨n,hn,rfl,hg,d⟩:=hrel;have HG:Hid (whoN xs im=whoN xs n):=hg;have t:Hid (Below W.heap.size W wr):=d;clear z0 z1 z2 z3 z4 z5 z6 z7 z8 z9 s;obtain ⟨z0,z1,z2,z3,z4,z5,z6,z7,z8,z9,s⟩:=(E.out _ d).cells;clear hg;cases n with
  | zero =>
   have HE:Hid (whoI (whoN xs im)=-1):=by rw [Hid,HG.out];rfl
   clear d;go_wp2_with fail;go_ret;exact ⟨ri HE.out.symm,HF.out _ t.out⟩
  | succ i =>
   have e1:(((i+1:Nat):Int) - 1)=(i:Int):=by omega
   rw [e1];have hR:=HR.out _ d;rcases hR.cells with h0 | ⟨g,off,rfl,h1,h2,hc⟩
   · omega
   obtain ⟨c0,c1⟩:=hc i (by omega);have H:(i:Int)<(im:Int):=by omega
   obtain ⟨p,hp⟩:∃ p,p=(xs.getD i (0,0)).1:=⟨_,rfl⟩;obtain ⟨q,hq⟩:∃ q,q=(xs.getD i (0,0)).2:=⟨_,rfl⟩;rw [← hp] at c0;rw [← hq] at c1;have HN:Hid (whoN xs (i+1)=if noneB p q=true then whoN xs i else some i):=by rw [Hid,whoN,← hp,← hq]
   clear hR hc hp hq d;go_wp2_with fail;refine (l5none_any p q wr).mono ?_;rintro e w1 ⟨rfl,A⟩;have H1:Hid (Below W.heap.size W w1):=t.out.trans (A.mono t.out.size);clear A c0 c1 z0 z1 z2 z3 z4 z5 z6 z7 z8 z9 s;cases hno:noneB p q with
   | true =>
    have HE:Hid (whoN xs im=whoN xs i):=by rw [Hid,HG.out,HN.out,hno];rfl
    clear hno;go_wp2_with fail;go_roundw
    case rel=>exact ⟨i,by omega,by first | rfl | go_num,HE.out,H1.out⟩
    case measure=>simp [intOf]
   | false =>
    have HE:Hid (whoI (whoN xs im)=(i:Int)):=by rw [Hid,HG.out,HN.out,hno];rfl
    clear hno;go_wp2_with fail;go_ret;exact ⟨ri HE.out.symm,HF.out _ H1.out⟩
end

section
open Go.RowKit
set_option linter.unusedVariables false
def CL.zero:CL:=⟨0,0,0,0,0,0,0,0,[],0,0⟩
def Cl11 (lo hi:Nat) (w:World) (b o:Nat) (x:CL):Prop:=∃ (ia:Option Addr) (im ic:Nat),w.cell? ⟨b,o,none⟩=some (.int .i64 x.kind)∧w.cell? ⟨b,o+1,none⟩=some (.int .i64 x.fn)∧w.cell? ⟨b,o+2,none⟩=some (.int .i64 x.role)∧w.cell? ⟨b,o+3,none⟩=some (.int .i64 x.above)∧w.cell? ⟨b,o+4,none⟩=some (.int .i64 x.xp)∧w.cell? ⟨b,o+5,none⟩=some (.int .i64 x.xn)∧w.cell? ⟨b,o+6,none⟩=some (.int .i64 x.yp)∧w.cell? ⟨b,o+7,none⟩=some (.int .i64 x.yn)∧w.cell? ⟨b,o+8,none⟩=some (.slice ia im ic)∧w.cell? ⟨b,o+9,none⟩=some (.int .i64 x.a)∧w.cell? ⟨b,o+10,none⟩=some (.int .i64 x.b)∧RP lo hi w ia im ic x.inds
structure RdG (lo hi:Nat) (w:World) (a:Option Addr) (n d:Nat) (xs:List CL):Prop where
 len:xs.length=n
 fits:n≤d∧d≤9223372036854775807
 cells:n=0∨∃ b off,a=some ⟨b,off,none⟩∧lo≤b∧b<hi∧∀ i,i<n→Cl11 lo hi w b (off+i*11) (xs.getD i CL.zero)
theorem Cl11.same {lo hi:Nat} {w w':World} {b o:Nat} {x:CL} (h:Cl11 lo hi w b o x) (hs:Same lo hi w w') (h1:lo≤b) (h2:b<hi):Cl11 lo hi w' b o x:=by
 obtain ⟨ia,im,ic,q0,q1,q2,q3,q4,q5,q6,q7,q8,q9,t,hr⟩:=h;exact ⟨ia,im,ic,(hs.cell (p:=⟨b,o,none⟩) h1 h2).trans q0,(hs.cell (p:=⟨b,o+1,none⟩) h1 h2).trans q1,(hs.cell (p:=⟨b,o+2,none⟩) h1 h2).trans q2,(hs.cell (p:=⟨b,o+3,none⟩) h1 h2).trans q3,(hs.cell (p:=⟨b,o+4,none⟩) h1 h2).trans q4,(hs.cell (p:=⟨b,o+5,none⟩) h1 h2).trans q5,(hs.cell (p:=⟨b,o+6,none⟩) h1 h2).trans q6,(hs.cell (p:=⟨b,o+7,none⟩) h1 h2).trans q7,(hs.cell (p:=⟨b,o+8,none⟩) h1 h2).trans q8,(hs.cell (p:=⟨b,o+9,none⟩) h1 h2).trans q9,(hs.cell (p:=⟨b,o+10,none⟩) h1 h2).trans t,hr.same hs⟩
theorem Cl11.mono {lo hi lo' r:Nat} {w:World} {b o:Nat} {x:CL} (h:Cl11 lo hi w b o x) (h1:lo'≤lo) (h2:hi≤r):Cl11 lo' r w b o x:=by
 obtain ⟨ia,im,ic,q0,q1,q2,q3,q4,q5,q6,q7,q8,q9,t,hr⟩:=h;exact ⟨ia,im,ic,q0,q1,q2,q3,q4,q5,q6,q7,q8,q9,t,hr.mono h1 h2⟩
theorem RdG.same {lo hi:Nat} {w w':World} {a:Option Addr} {n d:Nat} {xs:List CL} (h:RdG lo hi w a n d xs) (hs:Same lo hi w w'):RdG lo hi w' a n d xs:=by
 obtain ⟨hl,hm,hc⟩:=h;refine ⟨hl,hm,?_⟩;rcases hc with h0 | ⟨b,off,e,h1,h2,hc⟩
 · exact .inl h0
 exact .inr ⟨b,off,e,h1,h2,fun i hi=>(hc i hi).same hs h1 h2⟩
theorem RdG.below {lo hi B:Nat} {w w':World} {a:Option Addr} {n d:Nat} {xs:List CL} (h:RdG lo hi w a n d xs) (hb:Below B w w') (hB:hi≤B):RdG lo hi w' a n d xs:=h.same (Same.of_below hb hB)
theorem RdG.mono {lo hi lo' r:Nat} {w:World} {a:Option Addr} {n d:Nat} {xs:List CL} (h:RdG lo hi w a n d xs) (h1:lo'≤lo) (h2:hi≤r):RdG lo' r w a n d xs:=by
 obtain ⟨hl,hm,hc⟩:=h;refine ⟨hl,hm,?_⟩;rcases hc with h0 | ⟨b,off,e,q1,q2,hc⟩
 · exact .inl h0
 exact .inr ⟨b,off,e,by omega,by omega,fun i hi=>(hc i hi).mono h1 h2⟩
theorem below_drewG (w:World):Below w.heap.size w w.drew:=(Below.refl _ _).drew
set_option maxRecDepth 100000 in
set_option maxHeartbeats 8000000 in
theorem eqG_any {a:Option Addr} {n d:Nat} {xs:List CL} {w:World} {lo hi:Nat} {a':Option Addr} {cap' lo' r:Nat} (h:RdG lo hi w a n d xs) (h':RdG lo' r w a' n cap' xs) (R:hi≤w.heap.size) (D:r≤w.heap.size) :
    Calls Try.prog 28 #[.slice a n d,.slice a' n cap'] w fun e w'=>e=.returned (.bool true)∧Below w.heap.size w w':=by
 have HK:Hid (RdG lo hi w a n d xs):=h;have a0:Hid (RdG lo' r w a' n cap' xs):=h';have hf:=h.fits;have a8:=h'.fits;clear h h';go_enter Try.func28, Try.ntmps28;go_wp2_with fail;go_loopw [5] (fun i wr=>∃ k:Nat,k≤n∧i=.int .i64 k∧Below w.heap.size w wr) (fun i _=>n - (intOf i).toNat)
 case atStart=>exact ⟨0,Nat.zero_le _,rfl,Below.refl _ _⟩
 case round =>
  obtain ⟨k,hk,rfl,m⟩:=hrel;have HB:Hid (Below w.heap.size w wr):=m;by_cases hlt:k<n
  · have hK:=HK.out.below m R;have V:=a0.out.below m D;rcases hK.cells with hz | ⟨b,off,e1,_,a9,hc⟩
    · omega
    rcases V.cells with hz | ⟨b',off',Y,_,a1,T⟩
    · omega
    subst e1 Y;obtain ⟨ia,im,ic,q0,q1,q2,q3,q4,q5,q6,q7,q8,q9,t,u⟩:=hc k hlt;obtain ⟨ia',im',ic',O,N,M,L,J,I,H,G,a6,F,z,s⟩:=T k hlt;obtain ⟨x,hx⟩:∃ x,x=xs.getD k CL.zero:=⟨_,rfl⟩;rw [← hx] at q0 q1 q2 q3 q4 q5 q6 q7 q9 t u O N M L J I H G F z s;obtain ⟨xk,xf,xr,xu,a4,a5,a2,a3,xi,xa,xb⟩:=x;dsimp only at q0 q1 q2 q3 q4 q5 q6 q7 q9 t u O N M L J I H G F z s;obtain rfl:im=im':=by have h1:=u.len;have h2:=s.len;omega
    have Z:Hid (RP lo hi wr.drew ia im ic xi):=u.same (fun _ _ _=>rfl);have E:Hid (RP lo' r wr.drew ia' im ic' xi):=s.same (fun _ _ _=>rfl);have a7:(k:Int)<(n:Int):=by omega
    have X:hi≤wr.heap.size:=Nat.le_trans R m.size;have W:r≤wr.heap.size:=Nat.le_trans D m.size;clear hK V hc T u s m hx;go_upto_region 6 with fail
    first | go_region_with (first
     | (go_at_call 16;refine (eqK_any Z.out E.out X W).mono ?_;rintro e w7 ⟨rfl,U⟩;have H7:Hid (Below w.heap.size w w7):=HB.out.trans ((below_drewG wr).trans U |>.mono HB.out.size);clear U)) | fail
    all_goals
     go_wp2_with fail;go_roundw
     case rel=>exact ⟨k+1,by omega,by go_num,H7.out⟩
     case measure=>simp [intOf];omega
  clear m;go_wp2_with fail;go_ret;exact ⟨rfl,HB.out⟩
end

end Go.Proofs.Ytkjmfaohdhiiaaa
