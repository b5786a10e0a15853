/- For every two clauses the law FnExactResolve answers true and they read behind the call as they did before: no condition. -/
import Derived.Test.YtkjmfaohdhiiaaaRows
import Derived.Test.YtkjmfaohdhiiaaaNG2
import Derived.Test.YtkjmfaohdhiiaaaClLaw
import Derived.Test.YtkjmfaohdhiiaaaResW1
import Derived.WalkKit
import Derived.ProofKit
import Derived.OpenShut
import Derived.ShutString
import Derived.ChangeOld
import Derived.Below
import Derived.Deep.RegionHeld3
import Derived.Deep.DeepCutAuto
namespace Go.Proofs.Ytkjmfaohdhiiaaa.fnExactResolve
open Go.ChangeShapes Go.WideShapes Go.ChangeAt Go.RowKit Go.Deep
set_option linter.unusedVariables false
theorem own:ownKnob Try.prog.godebug=none:=by kernel_rfl
theorem laidOut:laidOutB Try.prog=true:=by kernel_rfl
set_option maxRecDepth 100000 in
theorem lifted (os:Os) (started:os.Started) (H:Type) (enc:TypeId × Value→H) :
    ReturnsInHanded {} Try.checked os 8 .any (Rows.fnExactResolveSpec.pre6 enc Try.prog Try.f8 Rows.fnExactResolveRow.domain false) (Rows.fnExactResolveSpec.post enc Try.prog Try.f8 false true false false):=by
 refine returnsInHanded_of_change (C:=Try.checked) own started (by kernel_rfl) Try.func8
  (ChangeSpec.witness6 (enc:=enc) (C:=Try.checked) false ⟨#[],#[.agg #[.int .i64 0,.int .i64 0,.int .i64 0,.int .i64 0,.int .i64 0,.int .i64 0,.int .i64 0,.int .i64 0,.slice none 0 0,.int .i64 0,.int .i64 0],.agg #[.int .i64 0,.int .i64 0,.int .i64 0,.int .i64 0,.int .i64 0,.int .i64 0,.int .i64 0,.int .i64 0,.slice none 0 0,.int .i64 0,.int .i64 0]],[]⟩ 8 (by kernel_rfl) (by kernel_rfl) (by kernel_rfl) (by kernel_rfl)) ?_
 intro W base args ds gs before d hW J _;have o:∀ (j:Nat) t v, Try.f8.params[j]?=some t→args[j]?=some v→Value.okWide Try.prog W .any base t v:=d;have I:=hW;obtain ⟨p,q,D,hV,rfl,Y,X⟩:=hW;have hA:DataW.TrodAll enc Try.prog W 0 (fun _=>true) true Try.f8.params.toList args.toList ds p:=D;rw [Try.params8] at hA o;obtain ⟨v0,M,d0,a0,p0,q0,E,rfl,rfl,h0,r0⟩:=trodAll_cons hA;obtain ⟨v1,L,d1,Z,p1,q1,A,rfl,rfl,h1,r1⟩:=trodAll_cons r0;obtain ⟨rfl,rfl,rfl⟩:=trodAll_nil r1;obtain rfl:args=#[v0,v1]:=by cases args;simp_all
 obtain ⟨rfl,rfl⟩:=trodVars_none hV;obtain ⟨s,rfl,_⟩:=okWide_struct Try.underlying26 (o 0 26 v0 rfl rfl);obtain ⟨r,rfl,_⟩:=okWide_struct Try.underlying26 (o 1 26 v1 rfl rfl);have k0:=h0;have k1:=h1;have G:∀ x∈p0,x.block<W.heap.size:=by obtain ⟨m,hm⟩:=k0;exact DataW.trod_lt m _ _ _ hm
 have F:∀ x∈p1,x.block<W.heap.size:=by obtain ⟨m,hm⟩:=k1;exact DataW.trod_lt m _ _ _ hm
 obtain ⟨x0,V,O,T,z,w0⟩:∃ (x:CL) (ia:Option Addr) (im ic:Nat),s=#[.int .i64 x.kind,.int .i64 x.fn,.int .i64 x.role,.int .i64 x.above,.int .i64 x.xp,.int .i64 x.xn,.int .i64 x.yp,.int .i64 x.yn,.slice ia im ic,.int .i64 x.a,.int .i64 x.b]∧RP 0 W.heap.size W ia im ic x.inds:=by
  obtain ⟨fuel,hf⟩:=h0;obtain ⟨x,ia,im,ic,hv,hr⟩:=open_clause (cs:=s.toList) (by simpa [Value.cells] using hf);exact ⟨x,ia,im,ic,by cases s;simp_all,hr⟩
 subst z
 obtain ⟨x1,U,N,R,u,w1⟩:∃ (x:CL) (ia:Option Addr) (im ic:Nat),r=#[.int .i64 x.kind,.int .i64 x.fn,.int .i64 x.role,.int .i64 x.above,.int .i64 x.xp,.int .i64 x.xn,.int .i64 x.yp,.int .i64 x.yn,.slice ia im ic,.int .i64 x.a,.int .i64 x.b]∧RP 0 W.heap.size W ia im ic x.inds:=by
  obtain ⟨fuel,hf⟩:=h1;obtain ⟨x,ia,im,ic,hv,hr⟩:=open_clause (cs:=r.toList) (by simpa [Value.cells] using hf);exact ⟨x,ia,im,ic,by cases r;simp_all,hr⟩
 subst u;clear D d;refine (resWalk W w0 w1).mono fun e W' ⟨he,bel⟩=>?_
 subst he;exact ⟨_,rfl,_,_,_,[],_,[],I,trodAll_mk1 (shut_bool Try.underlying4 _),(trodAll_cons_mk (Below.trod laidOut (by kernel_rfl) (of_decide_eq_true (by kernel_rfl)) k0 bel G) (trodAll_cons_mk (Below.trod laidOut (by kernel_rfl) (of_decide_eq_true (by kernel_rfl)) k1 bel F) trodAll_mk0)),rfl,bel.frame _,fun h=>by cases h⟩
theorem over:Rows.fnExactResolveRow.holds Try.pinned (OpenSpec.ofChange Rows.fnExactResolveSpec) :=
 OpenClaim.holds_of_wide 8 Try.f8 rfl rfl rfl rfl rfl rfl rfl ⟨rfl,rfl,rfl,rfl,rfl⟩ rfl rfl rfl rfl rfl (by kernel_rfl) Try.func8 (by kernel_rfl)
  (of_decide_eq_true (by kernel_rfl)) (by unfold Func.isWrapper;first | (rw [if_pos (by decide +kernel)];kernel_rfl) | (rw [if_neg (by decide +kernel)];exact ⟨rfl,rfl⟩))
  (fun os started H enc _=>lifted os started H enc)
theorem proved:Rows.FnExactResolveSaid:=over
#print axioms proved
end Go.Proofs.Ytkjmfaohdhiiaaa.fnExactResolve
namespace Go.Proofs.Ytkjmfaohdhiiaaa
theorem fnExactResolve_holds:Rows.FnExactResolveSaid:=fnExactResolve.proved
end Go.Proofs.Ytkjmfaohdhiiaaa
