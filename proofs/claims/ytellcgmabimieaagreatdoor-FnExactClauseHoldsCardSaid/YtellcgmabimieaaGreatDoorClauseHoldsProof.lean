/- For every World, every Cls, every Clause and every list of flags the law FnExactClauseHolds answers true and all four read behind the call as they did before, the library's tables lying as the program's text lays them (a tied card): no other condition. -/
import Derived.Test.YtellcgmabimieaaGreatDoorRows
import Derived.Test.YtellcgmabimieaaGreatDoorCards
import Derived.Test.YtellcgmabimieaaGreatDoorTie
import Derived.Test.YtellcgmabimieaaGreatDoorNG3
import Derived.Test.YtellcgmabimieaaGreatDoorNG5
import Derived.Test.YtellcgmabimieaaGreatDoorHlW
import Derived.WalkKit
import Derived.ProofKit
import Derived.OpenShut
import Derived.ShutString
import Derived.ChangeOld
import Derived.Below
import Derived.Deep.RegionHeld3
import Derived.SevenTiedAt
namespace Go.Proofs.YtellcgmabimieaaGreatDoor.fnExactClauseHolds
open Go.ChangeShapes Go.WideShapes Go.ChangeAt Go.RowKit Go.Deep
set_option linter.unusedVariables false
theorem own:ownKnob Tryz.prog.godebug=none:=by kernel_rfl
theorem laidOut:laidOutB Tryz.prog=true:=by kernel_rfl
set_option maxRecDepth 100000 in
theorem lifted (os:Os) (started:os.Started) (H:Type) (enc:TypeId × Value→H) :
    ReturnsInHanded {} Tryz.checked os 3 .any (fun w args=>(Rows.fnExactClauseHoldsSpec.pre enc Tryz.prog Tryz.f3 [] false w args∧laidMetH Tryz.prog laid2 w)∧sizedMet enc Tryz.prog Tryz.f3 (OpenSpec.ofChange Rows.fnExactClauseHoldsSpec) false w args)
     (Rows.fnExactClauseHoldsSpec.post enc Tryz.prog Tryz.f3 false true false false):=by
 refine returnsInHanded_of_change_and (C:=Tryz.checked) (X:=fun w _=>laidMetH Tryz.prog laid2 w) (fun _ _ _ hh h=>h.of_heap hh) own started (by kernel_rfl) Tryz.func3
  (ChangeSpec.witness_shaped (enc:=enc) (C:=Tryz.checked) (os:=os) (X:=fun w _=>laidMetH Tryz.prog laid2 w) false (World.doorLaid Tryz.prog 400 os) #[.agg #[.int .i64 0,.slice none 0 0,.slice none 0 0,.slice none 0 0,.slice none 0 0,.slice none 0 0,.slice none 0 0],.agg #[.slice none 0 0,.slice none 0 0,.slice none 0 0,.slice none 0 0],.agg #[.int .i64 0,.int .i64 0,.int .i64 0,.int .i64 0,.int .i64 0,.int .i64 0,.int .i64 0,.int .i64 0,.slice none 0 0,.int .i64 0,.int .i64 0],.slice none 0 0] 8 rfl (World.shaped_of_RefB (by kernel_rfl) (by kernel_rfl)) (by kernel_rfl) (by kernel_rfl) (by kernel_rfl) (door_met os _)) ?_
 intro W base args ds gs before z hW _ _ hL _;have o:∀ (j:Nat) t v, Tryz.f3.params[j]?=some t→args[j]?=some v→Value.okWide Tryz.prog W .any base t v:=z;have a0:=hW;obtain ⟨p,q,L,hV,rfl,a9,a8⟩:=hW;have hA:DataW.TrodAll enc Tryz.prog W 0 (fun _=>true) true Tryz.f3.params.toList args.toList ds p:=L;rw [Tryz.params3] at hA o;obtain ⟨v0,a7,d0,af,p0,q0,M,rfl,rfl,h0,r0⟩:=trodAll_cons hA;obtain ⟨v1,a6,d1,ae,p1,q1,J,rfl,rfl,h1,r1⟩:=trodAll_cons r0;obtain ⟨v2,a5,d2,ad,p2,q2,I,rfl,rfl,h2,r2⟩:=trodAll_cons r1;obtain ⟨v3,a4,d3,ab,p3,q3,G,rfl,rfl,h3,r3⟩:=trodAll_cons r2;obtain ⟨rfl,rfl,rfl⟩:=trodAll_nil r3;obtain rfl:args=#[v0,v1,v2,v3]:=by cases args;simp_all
 obtain ⟨rfl,rfl⟩:=trodVars_none hV;obtain ⟨E,rfl,_⟩:=okWide_struct Tryz.underlying26 (o 0 26 v0 rfl rfl);obtain ⟨D,rfl,_⟩:=okWide_struct Tryz.underlying30 (o 1 30 v1 rfl rfl);obtain ⟨A,rfl,_⟩:=okWide_struct Tryz.underlying35 (o 2 35 v2 rfl rfl);obtain ⟨a3,a1,a2,rfl⟩:=okWide_slice Tryz.underlying23 (o 3 23 v3 rfl rfl);have k0:=h0;have k1:=h1;have k2:=h2;have k3:=h3;have T:∀ x∈p0,x.block<W.heap.size:=by obtain ⟨m,hm⟩:=k0;exact DataW.trod_lt m _ _ _ hm
 have R:∀ x∈p1,x.block<W.heap.size:=by obtain ⟨m,hm⟩:=k1;exact DataW.trod_lt m _ _ _ hm
 have O:∀ x∈p2,x.block<W.heap.size:=by obtain ⟨m,hm⟩:=k2;exact DataW.trod_lt m _ _ _ hm
 have N:∀ x∈p3,x.block<W.heap.size:=by obtain ⟨m,hm⟩:=k3;exact DataW.trod_lt m _ _ _ hm
 obtain ⟨nx,na,nn,nc,sa,sn,sc,ra,rn,rc,la,ln,lc,ia,im,ic,ta,tn,tc,x,Z,hk,w0⟩:∃ k na nn nc sa sn sc ra rn rc la ln lc ia im ic ta tn tc x,E=#[.int .i64 k,.slice na nn nc,.slice sa sn sc,.slice ra rn rc,.slice la ln lc,.slice ia im ic,.slice ta tn tc]∧WD.n x=k∧RdW 0 W.heap.size W na nn nc sa sn sc ra rn rc la ln lc ia im ic ta tn tc x:=by
  obtain ⟨fuel,hf⟩:=h0;obtain ⟨k,na,nn,nc,sa,sn,sc,ra,rn,rc,la,ln,lc,ia,im,ic,ta,tn,tc,x,hv,hk,hr⟩:=open_world (cs:=E.toList) (by simpa [Value.cells] using hf);exact ⟨k,na,nn,nc,sa,sn,sc,ra,rn,rc,la,ln,lc,ia,im,ic,ta,tn,tc,x,by cases E;simp_all,hk,hr⟩
 obtain ⟨d,aa,an,ac,oa,on,oc,ua,un,uc,ka,kn,kc,s,Y,w1⟩:∃ d aa an ac ra rn rc wa wn wc la ln lc s,D=#[.slice aa an ac,.slice ra rn rc,.slice wa wn wc,.slice la ln lc]∧RdS 0 W.heap.size W d aa an ac ra rn rc wa wn wc la ln lc s:=by
  obtain ⟨fuel,hf⟩:=h1;obtain ⟨d,aa,an,ac,ra,rn,rc,wa,wn,wc,la,ln,lc,s,hv,hr⟩:=open_cls (cs:=D.toList) (by simpa [Value.cells] using hf);exact ⟨d,aa,an,ac,ra,rn,rc,wa,wn,wc,la,ln,lc,s,by cases D;simp_all,hr⟩
 obtain ⟨y,ya,ym,yc,V,w2⟩:∃ (x:CL) (ia:Option Addr) (im ic:Nat),A=#[.int .i64 x.kind,.int .i64 x.fn,.int .i64 x.role,.int .i64 x.above,.int .i64 x.xp,.int .i64 x.xn,.int .i64 x.yp,.int .i64 x.yn,.slice ia im ic,.int .i64 x.a,.int .i64 x.b]∧RP 0 W.heap.size W ia im ic x.inds:=by
  obtain ⟨fuel,hf⟩:=h2;obtain ⟨x,ia,im,ic,hv,hr⟩:=open_clause (cs:=A.toList) (by simpa [Value.cells] using hf);exact ⟨x,ia,im,ic,by cases A;simp_all,hr⟩
 obtain ⟨ls,w3⟩:∃ ls,RFF 0 W.heap.size W a3 a1 a2 ls:=by
  obtain ⟨fuel,hf⟩:=h3;obtain ⟨a,n,c,ls,hv,hr⟩:=open_sets hf;injection hv with e1 e2 e3
  subst e1 e2 e3;exact ⟨ls,hr⟩
 subst Z Y V;obtain ⟨hT,hg⟩:=of_laid hL;clear L z;refine (clhWalk w0 hk w1 w2 w3 (Nat.le_refl _) (Nat.le_refl _) (Nat.le_refl _) (Nat.le_refl _) hT hg).mono fun e W' ⟨he,bel⟩=>?_
 subst he;exact ⟨_,rfl,_,_,_,[],_,[],a0,trodAll_mk1 (shut_bool Tryz.underlying4 _),(trodAll_cons_mk (Below.trod laidOut (by kernel_rfl) (of_decide_eq_true (by kernel_rfl)) k0 bel T) (trodAll_cons_mk (Below.trod laidOut (by kernel_rfl) (of_decide_eq_true (by kernel_rfl)) k1 bel R) (trodAll_cons_mk (Below.trod laidOut (by kernel_rfl) (of_decide_eq_true (by kernel_rfl)) k2 bel O) (trodAll_cons_mk (Below.trod laidOut (by kernel_rfl) (of_decide_eq_true (by kernel_rfl)) k3 bel N) trodAll_mk0)))),rfl,bel.frame _,fun h=>by cases h⟩
theorem over:Rows.fnExactClauseHoldsRow.holds Tryz.pinned (OpenSpec.ofChange Rows.fnExactClauseHoldsSpec) :=
 OpenClaim.holds_of_wide 3 Tryz.f3 rfl rfl rfl rfl rfl rfl rfl ⟨rfl,rfl,rfl,rfl,rfl⟩ rfl rfl rfl rfl rfl (by kernel_rfl) Tryz.func3 (by kernel_rfl)
  (of_decide_eq_true (by kernel_rfl)) (by unfold Func.isWrapper;first | (rw [if_pos (by decide +kernel)];kernel_rfl) | (rw [if_neg (by decide +kernel)];exact ⟨rfl,rfl⟩))
  (fun os started H enc _=>lifted os started H enc)
theorem proved:Rows.FnExactClauseHoldsCardSaid :=
 Claim7.holds_tied_plain_at .later [] [.data,.data] true Rows.fnExactClauseHoldsCard.stood.harness false
  over (fun _ h=>by cases h) (by kernel_rfl) (fun _ h=>by cases h) fnExactClauseHolds_row_tie rfl ⟨rfl,rfl⟩ (by kernel_rfl) rfl
  (fun f fn hf U=>by
   obtain rfl : f = 3 := Option.some.inj ((show Tryz.prog.funcNamed "loop.example/g00534/laws.FnExactClauseHolds" = some 3 by kernel_rfl).symm.trans hf) |>.symm
   obtain rfl:fn=Tryz.f3:=(Option.some.inj (Tryz.func3.symm.trans U)).symm
   exact ⟨by kernel_rfl,fun j t ht=>by
    rw [Tryz.params3] at ht;have hm:t∈[26, 30, 35, 23]:=by simpa using Array.mem_of_getElem? ht
    have F:([26, 30, 35, 23].all fun u=>!Tryz.prog.wantsStandIn u)=true:=by kernel_rfl
    exact (show Tryz.prog.wantsStandIn t=false by simpa using List.all_eq_true.1 F t hm)⟩)
  (by kernel_rfl)
#print axioms proved
end Go.Proofs.YtellcgmabimieaaGreatDoor.fnExactClauseHolds
namespace Go.Proofs.YtellcgmabimieaaGreatDoor
theorem fnExactClauseHoldsCard_holds:Rows.FnExactClauseHoldsCardSaid:=fnExactClauseHolds.proved
end Go.Proofs.YtellcgmabimieaaGreatDoor
