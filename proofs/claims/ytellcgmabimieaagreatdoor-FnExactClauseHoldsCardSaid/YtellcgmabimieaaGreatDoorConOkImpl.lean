/- The program's look at a whole concept: for every concept in memory it answers what 'conOk' says. -/
import Derived.Test.YtellcgmabimieaaGreatDoorConTell
import Derived.Test.YtellcgmabimieaaGreatDoorNG8
namespace Go.Proofs.YtellcgmabimieaaGreatDoor
open Go.RowKit Go.Shelf
attribute [local go_sem] Oper.semAt_some
theorem boxed_noncells {W W':World} {B t:Nat} {v:Value} {row:Option Nat} (h:Boxed W B t v) (hg:W.grownBy W' row)
    (hr:∀ r,row=some r→∃ o:Obj,W.heap[r]?=some o∧o.isCells=false):Boxed W' B t v :=
 h.kept hg (fun e=>by
  obtain ⟨o,ho,hc⟩:=hr B e.symm
  rw [show W.heap[B]?=_ from h] at ho;cases ho;cases hc)
theorem boxC_noncells {W W':World} {B:Nat} {v0 v1 v2 v3:Value} {row:Option Nat} (h:BoxC W B v0 v1 v2 v3) (hg:W.grownBy W' row)
    (hr:∀ r,row=some r→∃ o:Obj,W.heap[r]?=some o∧o.isCells=false):BoxC W' B v0 v1 v2 v3 :=
 (hg.block B h.lt (fun e=>by
  obtain ⟨o,ho,hc⟩:=hr B e.symm
  rw [show W.heap[B]?=_ from h] at ho;cases ho;cases hc)).trans h
theorem boxed_setOther {W:World} {B t:Nat} {v:Value} (h:Boxed W B t v) {B':Nat} (ah:B≠B') (x:Value):Boxed (W.setCell ⟨B',0,none⟩ x) B t v :=
 (Below.heap_setCell W ⟨B',0,none⟩ x B ah).trans h
theorem boxed_below {W W':World} {B t:Nat} {v:Value} (h:Boxed W B t v) {n:Nat} (hb:Below n W W') (hn:B<n):Boxed W' B t v:=(hb.block B hn).trans h
theorem keepsOthers_below {W W':World} (h:Below W.heap.size W W'):KeepsOthers W W':=⟨h.size,fun k _ hk _=>(h.block k (Array.getElem?_eq_some_iff.1 hk).1).trans hk⟩
theorem KpC.set {B n1:Nat} (W:World) (b:Nat) (v:Value) (h1:B≤b) (h2:b<n1):KpC B n1 W (W.setCell ⟨b,0,none⟩ v) :=
 ⟨(Below.refl _ _).setCell (p:=⟨b,0,none⟩) h1 _,fun x _ hx h _=>(Below.heap_setCell W ⟨b,0,none⟩ v x (by show x≠b;omega)).trans h⟩
theorem all_okOne_snoc {lo hi:Nat} {w0:World} (pre:List (Item lo hi w0)) (x:Item lo hi w0):((pre++[x]).map Item.m).all okOne=((pre.map Item.m).all okOne && okOne x.m):=by simp
theorem conOk_of_all {lo hi:Nat} {w0:World} {c:CN} {ys:List (Item lo hi w0)} (h:ys.map Item.m=parts c 1) (hf:ys.length≤16) (hg:(ys.map Item.m).all okOne=true):conOk c=true:=by
 unfold conOk;rw [← h,hg,List.length_map];simp [hf]
theorem conOk_of_part {lo hi:Nat} {w0:World} {c:CN} {pre:List (Item lo hi w0)} (h:pre.map Item.m <+: parts c 1) (hb:16<pre.length∨(pre.map Item.m).all okOne=false):conOk c=false:=by
 obtain ⟨t,ht⟩:=h;unfold conOk;rw [← ht,List.length_append,List.length_map,List.all_append];rcases hb with hb | hb
 · rw [show decide (pre.length+t.length≤16)=false from by simp;omega];rfl
 rw [hb];simp
structure InvO {lo hi:Nat} {w0:World} (s n1:Nat) (w:World) (pre:List (Item lo hi w0)) (W:World):Prop where
 res:Boxed W (s+1) 4 (.bool false)
 cnt:Boxed W (s+1+1) 3 (.int .i64 (pre.length:Nat))
 bel:Below s w W
 few:pre.length≤16
 good:(pre.map Item.m).all okOne=true
 size:n1≤W.heap.size
structure InvOx {lo hi:Nat} {w0:World} (s:Nat) (w:World) (c:Code) (pre:List (Item lo hi w0)) (W:World):Prop where
 code:c=.ret
 res:Boxed W (s+1) 4 (.bool false)
 bel:Below s w W
 bad:16<pre.length∨(pre.map Item.m).all okOne=false
theorem InvO.own {lo hi:Nat} {w0:World} {s n1:Nat} {w:World} {B:Nat} (hB:s≤B):OwnFrom B (InvO (lo:=lo) (hi:=hi) (w0:=w0) s n1 w):=by
 rintro pre W W' row ⟨h1,h2,h3,h4,h5,h6⟩ hg hr;have:s≤W.heap.size:=by have:=Boxed.lt h1;omega
 exact ⟨boxed_noncells h1 hg fun r e=>(hr r e).2,boxed_noncells h2 hg fun r e=>(hr r e).2,h3.grown hg this fun k e=>by have:=(hr k e).1;omega,h4,h5,Nat.le_trans h6 hg.size⟩
theorem InvOx.own {lo hi:Nat} {w0:World} {s:Nat} {w:World} {B:Nat} (hB:s≤B) (c:Code):OwnFrom B (InvOx (lo:=lo) (hi:=hi) (w0:=w0) s w c):=by
 rintro pre W W' row ⟨h0,h1,h3,h4⟩ hg hr;have:s≤W.heap.size:=by have:=Boxed.lt h1;omega
 exact ⟨h0,boxed_noncells h1 hg fun r e=>(hr r e).2,h3.grown hg this fun k e=>by have:=(hr k e).1;omega,h4⟩
def AxO {lo hi:Nat} {w0:World} (n1:Nat) (f:Value→Value→Value→Array Value) (x:Item lo hi w0) (a':Act) (W:World):Prop :=
 ∃ (Bx:Nat) (k:Int) (na:Option Addr) (nn nc:Nat) (ra:Option Addr) (rn rc:Nat) (ka:Option Addr) (kn kc:Nat),n1≤Bx∧x.v=.agg #[.int .i64 k,.slice na nn nc,.slice ra rn rc,.slice ka kn kc]∧BoxC W Bx (.int .i64 k) (.slice na nn nc) (.slice ra rn rc) (.slice ka kn kc) ∧
  a'={ tmps:=f (.int .i64 x.deep) (.agg #[.int .i64 k,.slice na nn nc,.slice ra rn rc,.slice ka kn kc]) (.pointer (some ⟨Bx,0,none⟩)),defers:=[] }
theorem AxO.own {lo hi:Nat} {w0:World} {n1 B:Nat} {f:Value→Value→Value→Array Value} (x:Item lo hi w0) (a':Act):OwnFrom B (fun (_:Unit) W=>AxO n1 f x a' W):=by
 rintro _ W W' row ⟨Bx,k,na,nn,nc,ra,rn,rc,ka,kn,kc,h1,h2,h3,h4⟩ hg hr;exact ⟨Bx,k,na,nn,nc,ra,rn,rc,ka,kn,kc,h1,h2,boxC_noncells h3 hg fun r e=>(hr r e).2,h4⟩
set_option maxRecDepth 100000 in
set_option maxHeartbeats 2000000 in
theorem implConOk_any {d:Nat} {v:Value} {c:CN} {w:World} {lo hi:Nat} (h:RdC lo hi w d v c) (ab:hi≤w.heap.size) (aA:c.bulk≤1048576) :
    Calls Tryz.prog 96 #[v] w fun e w'=>e=.returned (.bool (conOk c))∧Below w.heap.size w w':=by
 have am:Hid (RdC lo hi w d v c):=h
 obtain ⟨k,na,nn,nc,ra,rn,rc,ka,kn,kc,rfl⟩:∃ k na nn nc ra rn rc ka kn kc,v=.agg #[.int .i64 k,.slice na nn nc,.slice ra rn rc,.slice ka kn kc]:=by
  cases d with
  | zero=>exact h.elim
  | succ d =>
   obtain ⟨na,nn,nc,ra,rn,rc,ka,kn,kc,hv,_⟩:=h;exact ⟨_,na,nn,nc,ra,rn,rc,ka,kn,kc,hv⟩
 clear h;refine (callsIn_wide (n:=6)).1 ?_;refine callsIn_of_wp_marks Tryz.func96 rfl trivial ?_ rfl;simp only [Tryz.ntmps96,List.size_toArray,List.length_cons,List.length_nil,Nat.reduceAdd,Nat.reduceSub,Array.replicate_succ,Array.replicate_zero,List.push_toArray,List.append_toArray,List.nil_append,List.cons_append]
 gi_wp2_with (first | (refine ⟨trivial,?_⟩;gi_at_call 117;refine (conTree_in _ _ _ _ _ _ _ _ _ _ _ _).mono ?_;rintro e w' ⟨rfl,rfl⟩) | (refine ⟨trivial,?_⟩;gi_at_call 118;refine (all_in _ _ _ _ _ _ _ _ _ _ _ _).mono ?_;rintro e w' ⟨rfl,rfl⟩))
 obtain ⟨W0,U⟩:∃ W0,W0=((((((w.alloc (.cells #[.int .i64 k,.slice na nn nc,.slice ra rn rc,.slice ka kn kc] 104)).alloc (.cells #[.bool false] 4)).alloc (.cells #[.int .i64 0] 3)).alloc (.cells #[.int .i64 k,.slice na nn nc,.slice ra rn rc,.slice ka kn kc] 104)).alloc (.cells #[.int .i64 k,.slice na nn nc,.slice ra rn rc,.slice ka kn kc,.func (.func 129) #[] #[]] 165)).alloc (.cells #[.int .i64 k,.slice na nn nc,.slice ra rn rc,.slice ka kn kc,.func (.func 129) #[] #[]] 165)):=⟨_,rfl⟩;have ax:W0.heap.size=w.heap.size+1+1+1+1+1+1:=by rw [U];simp
 have ac:Below w.heap.size w W0:=by rw [U];exact ((((((Below.refl _ w).alloc (Nat.le_refl _) _).alloc (by simp) _).alloc (by simp;omega) _).alloc (by simp;omega) _).alloc (by simp;omega) _).alloc (by simp;omega) _
 have aj:Boxed W0 (w.heap.size+1) 4 (.bool false):=by
  rw [U];have:=Boxed.new (w.alloc (.cells #[.int .i64 k,.slice na nn nc,.slice ra rn rc,.slice ka kn kc] 104)) 4 (.bool false);rw [World.size_alloc] at this;exact ((((this.alloc _).alloc _).alloc _).alloc _)
 have ai:Boxed W0 (w.heap.size+1+1) 3 (.int .i64 0):=by
  rw [U];have:=Boxed.new ((w.alloc (.cells #[.int .i64 k,.slice na nn nc,.slice ra rn rc,.slice ka kn kc] 104)).alloc (.cells #[.bool false] 4)) 3 (.int .i64 0);rw [World.size_alloc,World.size_alloc] at this;exact (((this.alloc _).alloc _).alloc _)
 have ak:BoxT W0 (w.heap.size+1+1+1+1+1) k na nn nc ra rn rc ka kn kc:=by
  rw [U];have:=World.alloc_heap_new (((((w.alloc (.cells #[.int .i64 k,.slice na nn nc,.slice ra rn rc,.slice ka kn kc] 104)).alloc (.cells #[.bool false] 4)).alloc (.cells #[.int .i64 0] 3)).alloc (.cells #[.int .i64 k,.slice na nn nc,.slice ra rn rc,.slice ka kn kc] 104)).alloc (.cells #[.int .i64 k,.slice na nn nc,.slice ra rn rc,.slice ka kn kc,.func (.func 129) #[] #[]] 165)) (.cells #[.int .i64 k,.slice na nn nc,.slice ra rn rc,.slice ka kn kc,.func (.func 129) #[] #[]] 165);simp only [World.size_alloc] at this;exact this
 rw [← U];clear U
 refine wpIn_rangeFunc_ownH rfl (by omega) (gf:=130) (lb:=#[.pointer (some ⟨w.heap.size+1+1+1+1+1,0,none⟩)]) rfl trivial (enters_of Tryz.func130 (by kernel_rfl) rfl)
  (parts_stops (lo:=lo) (hi:=hi) (B:=w.heap.size) (n1:=w.heap.size+1+1+1+1+1+1) 5 (w.heap.size+1+1+1+1+1) ab (by omega) c am.out (by omega) ac (by omega) ak) KpC.trans
  (fun W l o o' hl hW hc _=>KpC.putObj W l o o' (by omega) hW hc) (Below.refl _ _) (fun _=>rfl)
  (InvO w.heap.size (w.heap.size+1+1+1+1+1+1) w) (InvOx w.heap.size w) (InvO.own (by omega)) (InvOx.own (by omega))
  ⟨aj,ai,ac,by simp,rfl,by omega⟩
  (AxO (w.heap.size+1+1+1+1+1+1) (fun dv pv bx=>#[.agg #[.int .i64 k,.slice na nn nc,.slice ra rn rc,.slice ka kn kc],.pointer (some ⟨w.heap.size,0,none⟩),.pointer (some ⟨w.heap.size+1,0,none⟩),.pointer (some ⟨w.heap.size+1+1,0,none⟩),dv,bx,.agg #[.int .i64 k,.slice na nn nc,.slice ra rn rc,.slice ka kn kc],.agg #[.int .i64 k,.slice na nn nc,.slice ra rn rc,.slice ka kn kc,.func (.func 129) #[] #[]],.func (.func 130) #[] #[.pointer (some ⟨w.heap.size+1+1+1+1+1,0,none⟩)],dv,pv,undef,undef,undef,undef,undef,undef,undef,undef,undef,undef,undef,undef,undef])) AxO.own ?assign ?body ?done ?stop
 case assign =>
  rintro l pre ⟨deep,v,cx,dx,rd⟩ W K hi hK
  obtain ⟨xk,L,I,J,G,E,F,O,M,N,rfl⟩:∃ k na nn nc ra rn rc ka kn kc,v=.agg #[.int .i64 k,.slice na nn nc,.slice ra rn rc,.slice ka kn kc]:=by
   cases dx with
   | zero=>exact rd.elim
   | succ d =>
    obtain ⟨na,nn,nc,ra,rn,rc,ka,kn,kc,hv,_⟩:=rd;exact ⟨_,na,nn,nc,ra,rn,rc,ka,kn,kc,hv⟩
  unfold encI
  gi_wp2
  have az:=Boxed.lt hi.cnt;have hB:Below W.heap.size W (W.alloc (.cells #[.int .i64 xk,.slice L I J,.slice G E F,.slice O M N] 104)):=(Below.refl _ _).alloc (Nat.le_refl _) _
  exact hK _ _ ((keepsOthers_below hB).from _) (KpC.of_below hB (by omega)) ⟨hi.res.alloc _,hi.cnt.alloc _,hi.bel.alloc (by omega) _,hi.few,hi.good,Nat.le_trans hi.size hB.size⟩
   ⟨W.heap.size,xk,L,I,J,G,E,F,O,M,N,hi.size,rfl,BoxC.new W _ _ _ _,rfl⟩
 case body =>
  rintro l pre ⟨deep,v,cx,dx,rd⟩ a' W hl ⟨r,hr⟩ hI ⟨Bx,xk,L,I,J,G,E,F,O,M,N,aB,hv,Y,rfl⟩ a6;dsimp only at hv;subst hv;have HI:Hid (InvO w.heap.size (w.heap.size+1+1+1+1+1+1) w pre W):=hI;have cC:=Boxed.cell hI.cnt;have fC:=Boxed.frozen hI.cnt;have cR:=Boxed.cell hI.res;have fR:=Boxed.frozen hI.res;have aq:=hI.few;have ay:=hI.size;have ar:Hid (BoxC W Bx (.int .i64 xk) (.slice L I J) (.slice G E F) (.slice O M N)):=Y;obtain ⟨q0,q1,q2,q3⟩:=Y.cells;have al:Hid (RdC lo hi w dx (.agg #[.int .i64 xk,.slice L I J,.slice G E F,.slice O M N]) cx):=rd;have Z:Hid (((pre++[(⟨deep,.agg #[.int .i64 xk,.slice L I J,.slice G E F,.slice O M N],cx,dx,rd⟩:Item lo hi w)]).map Item.m).all okOne=(decide (deep≤6) && shapeB cx)):=by unfold Hid;rw [all_okOne_snoc,HI.out.good];rfl
  have ap:Bx≠w.heap.size+1+1:=by omega
  have ao:w.heap.size+1+1≠Bx:=by omega
  have av:w.heap.size+1<W.heap.size:=by omega
  have au:w.heap.size+1+1<W.heap.size:=by omega
  have aa:(pre++[(⟨deep,.agg #[.int .i64 xk,.slice L I J,.slice G E F,.slice O M N],cx,dx,rd⟩:Item lo hi w)]).length=pre.length+1:=by simp
  have a3:Hid ((pre++[(⟨deep,.agg #[.int .i64 xk,.slice L I J,.slice G E F,.slice O M N],cx,dx,rd⟩:Item lo hi w)]).length=pre.length+1):=aa;have ag:Hid (KpC w.heap.size (w.heap.size+1+1+1+1+1+1) W (W.setCell ⟨w.heap.size+1+1,0,none⟩ (.int .i64 ((pre.length:Int)+1)))):=KpC.set W _ _ (by omega) (by omega);have R:Hid (Below w.heap.size w (W.setCell ⟨w.heap.size+1+1,0,none⟩ (.int .i64 ((pre.length:Int)+1)))):=HI.out.bel.trans ag.out.1;have af:Hid (RdC lo hi (W.setCell ⟨w.heap.size+1+1,0,none⟩ (.int .i64 ((pre.length:Int)+1))) dx (.agg #[.int .i64 xk,.slice L I J,.slice G E F,.slice O M N]) cx):=al.out.below R.out ab;have q:Hid (Boxed (W.setCell ⟨w.heap.size+1+1,0,none⟩ (.int .i64 ((pre.length:Int)+1))) (w.heap.size+1) 4 (.bool false)):=boxed_setOther HI.out.res (by omega) _;have T:Hid (Boxed (W.setCell ⟨w.heap.size+1+1,0,none⟩ (.int .i64 ((pre.length:Int)+1))) (w.heap.size+1+1) 3 (.int .i64 ((pre.length:Int)+1))):=Boxed.set _ HI.out.cnt;clear hI Y hr a6 aa;by_cases h16:pre.length=16
  · rw [h16] at q R
    gi_wp2
    refine ⟨trivial,?_⟩
    gi_wp2
    exact ⟨((KeepsOthers.setCell _ _ _).trans (KeepsOthers.setCell _ _ _)).from _,rfl,Boxed.set _ q.out,R.out.setCell (p:=⟨w.heap.size+1,0,none⟩) (by show w.heap.size≤w.heap.size+1;omega) _,.inl (by rw [a3.out];omega)⟩
  have d1:decide ((16:Int)<(pre.length:Nat)+1)=false:=by simp;omega
  by_cases h6:6<deep
  · have d2:(6:Int)<(deep:Int):=by omega
    have HO:Hid ((decide (deep≤6) && shapeB cx)=false):=by unfold Hid;rw [show decide (deep≤6)=false from by simp;omega];rfl
    gi_wp2
    refine ⟨trivial,?_⟩
    gi_wp2
    exact ⟨((KeepsOthers.setCell _ _ _).trans (KeepsOthers.setCell _ _ _)).from _,rfl,Boxed.set _ q.out,R.out.setCell (p:=⟨w.heap.size+1,0,none⟩) (by show w.heap.size≤w.heap.size+1;omega) _,.inr (Z.out.trans HO.out)⟩
  have d2:decide ((6:Int)<(deep:Int))=false:=by simp;omega
  have d3:decide (deep≤6)=true:=by simp;omega
  have a9:hi≤(W.setCell ⟨w.heap.size+1+1,0,none⟩ (.int .i64 ((pre.length:Int)+1))).heap.size:=by simp;omega
  have ae:Hid (hi≤(W.setCell ⟨w.heap.size+1+1,0,none⟩ (.int .i64 ((pre.length:Int)+1))).heap.size):=a9;clear a9;cases hS:shapeB cx
  · have HO:Hid ((decide (deep≤6) && shapeB cx)=false):=by unfold Hid;rw [hS,d3];rfl
    gi_wp2
    refine ⟨trivial,?_⟩;refine (CallsIn.inRound l (callsIn_wide.2 (shapeOk_any af.out ae.out))).mono ?_;rintro e w1 ⟨rfl,z⟩;rw [hS];have u:=boxed_below q.out z (Boxed.lt q.out);have c2:=Boxed.cell u;have f2:=Boxed.frozen u;have a4:Hid (KeepsOthers (W.setCell ⟨w.heap.size+1+1,0,none⟩ (.int .i64 ((pre.length:Int)+1))) w1):=keepsOthers_below z;have a0:Hid (Below w.heap.size w w1):=R.out.trans (z.mono R.out.size);have A:Hid (Boxed w1 (w.heap.size+1) 4 (.bool false)):=u;clear z u
    gi_wp2
    exact ⟨(((KeepsOthers.setCell _ _ _).trans a4.out).trans (KeepsOthers.setCell _ _ _)).from _,rfl,Boxed.set _ A.out,a0.out.setCell (p:=⟨w.heap.size+1,0,none⟩) (by show w.heap.size≤w.heap.size+1;omega) _,.inr (Z.out.trans HO.out)⟩
  have HO:Hid ((decide (deep≤6) && shapeB cx)=true):=by unfold Hid;rw [hS,d3];rfl
  gi_wp2
  refine ⟨trivial,?_⟩;refine (CallsIn.inRound l (callsIn_wide.2 (shapeOk_any af.out ae.out))).mono ?_;rintro e w1 ⟨rfl,z⟩;rw [hS];have a4:Hid (KeepsOthers (W.setCell ⟨w.heap.size+1+1,0,none⟩ (.int .i64 ((pre.length:Int)+1))) w1):=keepsOthers_below z;have a0:Hid (Below w.heap.size w w1):=R.out.trans (z.mono R.out.size);have a1:Hid (KpC w.heap.size (w.heap.size+1+1+1+1+1+1) W w1):=ag.out.trans (KpC.of_below z R.out.size);have A:Hid (Boxed w1 (w.heap.size+1) 4 (.bool false)):=boxed_below q.out z (Boxed.lt q.out);have a2:Hid (Boxed w1 (w.heap.size+1+1) 3 (.int .i64 ((pre.length:Int)+1))):=boxed_below T.out z (Boxed.lt T.out);have an:W.heap.size≤w1.heap.size:=a1.out.1.size;clear z
  gi_wp2
  exact ⟨((KeepsOthers.setCell _ _ _).trans a4.out).from _,a1.out,A.out,by rw [a3.out];exact a2.out,a0.out,by rw [a3.out];omega,Z.out.trans HO.out,by omega⟩
 case done =>
  rintro D ys W hD hS hI hK;have cR:=Boxed.cell hI.res;have fR:=Boxed.frozen hI.res;have hE:conOk c=true:=conOk_of_all hS hI.few hI.good
  gi_wp2
  have ad:(W.setCell ⟨w.heap.size+1,0,none⟩ (.bool true)).heap[D]?=some (.deferred (some [])):=(KeepsOthers.setCell _ _ _).same D _ hK rfl;refine ⟨by simp,.inl ⟨_,_,rfl,run_takeDeferred ad,?_⟩⟩;have hB:=boxed_noncells (Boxed.set (.bool true) hI.res) (grownBy_putObj' _ D (.deferred none)) (fun r e=>by cases e;exact ⟨_,ad,rfl⟩);have cB:=Boxed.cell hB;exact ⟨.bool true,by simp [results, Tryz.results96,go_sem,cB],rb hE.symm,(hI.bel.setCell (p:=⟨w.heap.size+1,0,none⟩) (by show w.heap.size≤w.heap.size+1;omega) _).grown (grownBy_putObj' _ D _) (by have:=Boxed.lt hI.res;simp;omega) (fun k e=>by cases e;omega)⟩
 case stop =>
  rintro D cd pre W hD a5 hI hK;obtain ⟨rfl,V,a7,a8⟩:=hI;have cR:=Boxed.cell V;have hE:conOk c=false:=conOk_of_part a5 a8
  gi_wp2
  refine ⟨by simp,.inl ⟨_,_,rfl,run_takeDeferred hK,?_⟩⟩;have hB:=boxed_noncells V (grownBy_putObj' _ D (.deferred none)) (fun r e=>by cases e;exact ⟨_,hK,rfl⟩);have cB:=Boxed.cell hB;exact ⟨.bool false,by simp [results, Tryz.results96,go_sem,cB],rb hE.symm,a7.grown (grownBy_putObj' _ D _) (by have:=Boxed.lt V;omega) (fun k e=>by cases e;omega)⟩
end Go.Proofs.YtellcgmabimieaaGreatDoor
