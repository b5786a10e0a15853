/- Several texts in one: ConOkImpl, ConTextFn. -/
import Derived.Test.YtocpeiaolofodaaGreatNG8
import Derived.Test.YtocpeiaolofodaaGreatNG9
import Derived.Test.YtocpeiaolofodaaGreatNG6
import Derived.Test.YtocpeiaolofodaaGreatNG1
namespace Go.Proofs.YtocpeiaolofodaaGreat

section
open Go.RowKit Go.Shelf
attribute [local go_sem] Oper.semAt_some
theorem boxed_noncells {W W':World} {B t:Nat} {v:Value} {row:Option Nat} (h:Boxed W B t v) (hg:W.grownBy W' row)
    (hr:∀ r,row=some r→∃ o:Obj,W.heap[r]?=some o∧o.isCells=false):Boxed W' B t v :=
 h.kept hg (fun e=>by
  obtain ⟨o,ho,hc⟩:=hr B e.symm
  rw [show W.heap[B]?=_ from h] at ho;cases ho;cases hc)
theorem boxC_noncells {W W':World} {B:Nat} {v0 v1 v2 v3:Value} {row:Option Nat} (h:BoxC W B v0 v1 v2 v3) (hg:W.grownBy W' row)
    (hr:∀ r,row=some r→∃ o:Obj,W.heap[r]?=some o∧o.isCells=false):BoxC W' B v0 v1 v2 v3 :=
 (hg.block B h.lt (fun e=>by
  obtain ⟨o,ho,hc⟩:=hr B e.symm
  rw [show W.heap[B]?=_ from h] at ho;cases ho;cases hc)).trans h
theorem boxed_setOther {W:World} {B t:Nat} {v:Value} (h:Boxed W B t v) {B':Nat} (aj:B≠B') (x:Value):Boxed (W.setCell ⟨B',0,none⟩ x) B t v :=
 (Below.heap_setCell W ⟨B',0,none⟩ x B aj).trans h
theorem boxed_below {W W':World} {B t:Nat} {v:Value} (h:Boxed W B t v) {n:Nat} (hb:Below n W W') (hn:B<n):Boxed W' B t v:=(hb.block B hn).trans h
theorem keepsOthers_below {W W':World} (h:Below W.heap.size W W'):KeepsOthers W W':=⟨h.size,fun k _ hk _=>(h.block k (Array.getElem?_eq_some_iff.1 hk).1).trans hk⟩
theorem KpC.set {B n1:Nat} (W:World) (b:Nat) (v:Value) (h1:B≤b) (h2:b<n1):KpC B n1 W (W.setCell ⟨b,0,none⟩ v) :=
 ⟨(Below.refl _ _).setCell (p:=⟨b,0,none⟩) h1 _,fun x _ hx h _=>(Below.heap_setCell W ⟨b,0,none⟩ v x (by show x≠b;omega)).trans h⟩
theorem all_okOne_snoc {lo hi:Nat} {w0:World} (pre:List (Item lo hi w0)) (x:Item lo hi w0):((pre++[x]).map Item.m).all okOne=((pre.map Item.m).all okOne && okOne x.m):=by simp
theorem conOk_of_all {lo hi:Nat} {w0:World} {c:CN} {ys:List (Item lo hi w0)} (h:ys.map Item.m=parts c 1) (hf:ys.length≤16) (hg:(ys.map Item.m).all okOne=true):conOk c=true:=by
 unfold conOk;rw [← h,hg,List.length_map];simp [hf]
theorem conOk_of_part {lo hi:Nat} {w0:World} {c:CN} {pre:List (Item lo hi w0)} (h:pre.map Item.m <+: parts c 1) (hb:16<pre.length∨(pre.map Item.m).all okOne=false):conOk c=false:=by
 obtain ⟨t,ht⟩:=h;unfold conOk;rw [← ht,List.length_append,List.length_map,List.all_append];rcases hb with hb | hb
 · rw [show decide (pre.length+t.length≤16)=false from by simp;omega];rfl
 rw [hb];simp
structure InvO {lo hi:Nat} {w0:World} (s n1:Nat) (w:World) (pre:List (Item lo hi w0)) (W:World):Prop where
 res:Boxed W (s+1) 4 (.bool false)
 cnt:Boxed W (s+1+1) 3 (.int .i64 (pre.length:Nat))
 bel:Below s w W
 few:pre.length≤16
 good:(pre.map Item.m).all okOne=true
 size:n1≤W.heap.size
structure InvOx {lo hi:Nat} {w0:World} (s:Nat) (w:World) (c:Code) (pre:List (Item lo hi w0)) (W:World):Prop where
 code:c=.ret
 res:Boxed W (s+1) 4 (.bool false)
 bel:Below s w W
 bad:16<pre.length∨(pre.map Item.m).all okOne=false
theorem InvO.own {lo hi:Nat} {w0:World} {s n1:Nat} {w:World} {B:Nat} (hB:s≤B):OwnFrom B (InvO (lo:=lo) (hi:=hi) (w0:=w0) s n1 w):=by
 rintro pre W W' row ⟨h1,h2,h3,h4,h5,h6⟩ hg hr;have:s≤W.heap.size:=by have:=Boxed.lt h1;omega
 exact ⟨boxed_noncells h1 hg fun r e=>(hr r e).2,boxed_noncells h2 hg fun r e=>(hr r e).2,h3.grown hg this fun k e=>by have:=(hr k e).1;omega,h4,h5,Nat.le_trans h6 hg.size⟩
theorem InvOx.own {lo hi:Nat} {w0:World} {s:Nat} {w:World} {B:Nat} (hB:s≤B) (c:Code):OwnFrom B (InvOx (lo:=lo) (hi:=hi) (w0:=w0) s w c):=by
 rintro pre W W' row ⟨h0,h1,h3,h4⟩ hg hr;have:s≤W.heap.size:=by have:=Boxed.lt h1;omega
 exact ⟨h0,boxed_noncells h1 hg fun r e=>(hr r e).2,h3.grown hg this fun k e=>by have:=(hr k e).1;omega,h4⟩
def AxO {lo hi:Nat} {w0:World} (n1:Nat) (f:Value→Value→Value→Array Value) (x:Item lo hi w0) (a':Act) (W:World):Prop :=
 ∃ (Bx:Nat) (k:Int) (na:Option Addr) (nn nc:Nat) (ra:Option Addr) (rn rc:Nat) (ka:Option Addr) (kn kc:Nat),n1≤Bx∧x.v=.agg #[.int .i64 k,.slice na nn nc,.slice ra rn rc,.slice ka kn kc]∧BoxC W Bx (.int .i64 k) (.slice na nn nc) (.slice ra rn rc) (.slice ka kn kc) ∧
  a'={ tmps:=f (.int .i64 x.deep) (.agg #[.int .i64 k,.slice na nn nc,.slice ra rn rc,.slice ka kn kc]) (.pointer (some ⟨Bx,0,none⟩)),defers:=[] }
theorem AxO.own {lo hi:Nat} {w0:World} {n1 B:Nat} {f:Value→Value→Value→Array Value} (x:Item lo hi w0) (a':Act):OwnFrom B (fun (_:Unit) W=>AxO n1 f x a' W):=by
 rintro _ W W' row ⟨Bx,k,na,nn,nc,ra,rn,rc,ka,kn,kc,h1,h2,h3,h4⟩ hg hr;exact ⟨Bx,k,na,nn,nc,ra,rn,rc,ka,kn,kc,h1,h2,boxC_noncells h3 hg fun r e=>(hr r e).2,h4⟩
set_option maxRecDepth 100000 in
set_option maxHeartbeats 2000000 in
theorem implConOk_any {d:Nat} {v:Value} {c:CN} {w:World} {lo hi:Nat} (h:RdC lo hi w d v c) (ad:hi≤w.heap.size) (aC:c.bulk≤1048576) :
    Calls Tryz.prog 57 #[v] w fun e w'=>e=.returned (.bool (conOk c))∧Below w.heap.size w w':=by
 have ao:Hid (RdC lo hi w d v c):=h
 obtain ⟨k,na,nn,nc,ra,rn,rc,ka,kn,kc,rfl⟩:∃ k na nn nc ra rn rc ka kn kc,v=.agg #[.int .i64 k,.slice na nn nc,.slice ra rn rc,.slice ka kn kc]:=by
  cases d with
  | zero=>exact h.elim
  | succ d =>
   obtain ⟨na,nn,nc,ra,rn,rc,ka,kn,kc,hv,_⟩:=h;exact ⟨_,na,nn,nc,ra,rn,rc,ka,kn,kc,hv⟩
 clear h;refine (callsIn_wide (n:=6)).1 ?_;refine callsIn_of_wp_marks Tryz.func57 rfl trivial ?_ rfl;simp only [Tryz.ntmps57,List.size_toArray,List.length_cons,List.length_nil,Nat.reduceAdd,Nat.reduceSub,Array.replicate_succ,Array.replicate_zero,List.push_toArray,List.append_toArray,List.nil_append,List.cons_append]
 gi_wp2_with (first | (refine ⟨trivial,?_⟩;gi_at_call 69;refine (conTree_in _ _ _ _ _ _ _ _ _ _ _ _).mono ?_;rintro e w' ⟨rfl,rfl⟩) | (refine ⟨trivial,?_⟩;gi_at_call 70;refine (all_in _ _ _ _ _ _ _ _ _ _ _ _).mono ?_;rintro e w' ⟨rfl,rfl⟩))
 obtain ⟨W0,Y⟩:∃ W0,W0=((((((w.alloc (.cells #[.int .i64 k,.slice na nn nc,.slice ra rn rc,.slice ka kn kc] 37)).alloc (.cells #[.bool false] 4)).alloc (.cells #[.int .i64 0] 3)).alloc (.cells #[.int .i64 k,.slice na nn nc,.slice ra rn rc,.slice ka kn kc] 37)).alloc (.cells #[.int .i64 k,.slice na nn nc,.slice ra rn rc,.slice ka kn kc,.func (.func 95) #[] #[]] 107)).alloc (.cells #[.int .i64 k,.slice na nn nc,.slice ra rn rc,.slice ka kn kc,.func (.func 95) #[] #[]] 107)):=⟨_,rfl⟩;have az:W0.heap.size=w.heap.size+1+1+1+1+1+1:=by rw [Y];simp
 have ae:Below w.heap.size w W0:=by rw [Y];exact ((((((Below.refl _ w).alloc (Nat.le_refl _) _).alloc (by simp) _).alloc (by simp;omega) _).alloc (by simp;omega) _).alloc (by simp;omega) _).alloc (by simp;omega) _
 have al:Boxed W0 (w.heap.size+1) 4 (.bool false):=by
  rw [Y];have:=Boxed.new (w.alloc (.cells #[.int .i64 k,.slice na nn nc,.slice ra rn rc,.slice ka kn kc] 37)) 4 (.bool false);rw [World.size_alloc] at this;exact ((((this.alloc _).alloc _).alloc _).alloc _)
 have ak:Boxed W0 (w.heap.size+1+1) 3 (.int .i64 0):=by
  rw [Y];have:=Boxed.new ((w.alloc (.cells #[.int .i64 k,.slice na nn nc,.slice ra rn rc,.slice ka kn kc] 37)).alloc (.cells #[.bool false] 4)) 3 (.int .i64 0);rw [World.size_alloc,World.size_alloc] at this;exact (((this.alloc _).alloc _).alloc _)
 have am:BoxT W0 (w.heap.size+1+1+1+1+1) k na nn nc ra rn rc ka kn kc:=by
  rw [Y];have:=World.alloc_heap_new (((((w.alloc (.cells #[.int .i64 k,.slice na nn nc,.slice ra rn rc,.slice ka kn kc] 37)).alloc (.cells #[.bool false] 4)).alloc (.cells #[.int .i64 0] 3)).alloc (.cells #[.int .i64 k,.slice na nn nc,.slice ra rn rc,.slice ka kn kc] 37)).alloc (.cells #[.int .i64 k,.slice na nn nc,.slice ra rn rc,.slice ka kn kc,.func (.func 95) #[] #[]] 107)) (.cells #[.int .i64 k,.slice na nn nc,.slice ra rn rc,.slice ka kn kc,.func (.func 95) #[] #[]] 107);simp only [World.size_alloc] at this;exact this
 rw [← Y];clear Y
 refine wpIn_rangeFunc_ownH rfl (by omega) (gf:=96) (lb:=#[.pointer (some ⟨w.heap.size+1+1+1+1+1,0,none⟩)]) rfl trivial (enters_of Tryz.func96 (by kernel_rfl) rfl)
  (parts_stops (lo:=lo) (hi:=hi) (B:=w.heap.size) (n1:=w.heap.size+1+1+1+1+1+1) 5 (w.heap.size+1+1+1+1+1) ad (by omega) c ao.out (by omega) ae (by omega) am) KpC.trans
  (fun W l o o' hl hW hc _=>KpC.putObj W l o o' (by omega) hW hc) (Below.refl _ _) (fun _=>rfl)
  (InvO w.heap.size (w.heap.size+1+1+1+1+1+1) w) (InvOx w.heap.size w) (InvO.own (by omega)) (InvOx.own (by omega))
  ⟨al,ak,ae,by simp,rfl,by omega⟩
  (AxO (w.heap.size+1+1+1+1+1+1) (fun dv pv bx=>#[.agg #[.int .i64 k,.slice na nn nc,.slice ra rn rc,.slice ka kn kc],.pointer (some ⟨w.heap.size,0,none⟩),.pointer (some ⟨w.heap.size+1,0,none⟩),.pointer (some ⟨w.heap.size+1+1,0,none⟩),dv,bx,.agg #[.int .i64 k,.slice na nn nc,.slice ra rn rc,.slice ka kn kc],.agg #[.int .i64 k,.slice na nn nc,.slice ra rn rc,.slice ka kn kc,.func (.func 95) #[] #[]],.func (.func 96) #[] #[.pointer (some ⟨w.heap.size+1+1+1+1+1,0,none⟩)],dv,pv,undef,undef,undef,undef,undef,undef,undef,undef,undef,undef,undef,undef,undef])) AxO.own ?assign ?body ?done ?stop
 case assign =>
  rintro l pre ⟨deep,v,cx,dx,rd⟩ W K hi hK
  obtain ⟨xk,N,I,J,H,F,G,U,O,T,rfl⟩:∃ k na nn nc ra rn rc ka kn kc,v=.agg #[.int .i64 k,.slice na nn nc,.slice ra rn rc,.slice ka kn kc]:=by
   cases dx with
   | zero=>exact rd.elim
   | succ d =>
    obtain ⟨na,nn,nc,ra,rn,rc,ka,kn,kc,hv,_⟩:=rd;exact ⟨_,na,nn,nc,ra,rn,rc,ka,kn,kc,hv⟩
  unfold encI
  gi_wp2
  have aB:=Boxed.lt hi.cnt;have hB:Below W.heap.size W (W.alloc (.cells #[.int .i64 xk,.slice N I J,.slice H F G,.slice U O T] 37)):=(Below.refl _ _).alloc (Nat.le_refl _) _
  exact hK _ _ ((keepsOthers_below hB).from _) (KpC.of_below hB (by omega)) ⟨hi.res.alloc _,hi.cnt.alloc _,hi.bel.alloc (by omega) _,hi.few,hi.good,Nat.le_trans hi.size hB.size⟩
   ⟨W.heap.size,xk,N,I,J,H,F,G,U,O,T,hi.size,rfl,BoxC.new W _ _ _ _,rfl⟩
 case body =>
  rintro l pre ⟨deep,v,cx,dx,rd⟩ a' W hl ⟨r,hr⟩ hI ⟨Bx,xk,N,I,J,H,F,G,U,O,T,aD,hv,a0,rfl⟩ a8;dsimp only at hv;subst hv;have HI:Hid (InvO w.heap.size (w.heap.size+1+1+1+1+1+1) w pre W):=hI;have cC:=Boxed.cell hI.cnt;have fC:=Boxed.frozen hI.cnt;have cR:=Boxed.cell hI.res;have fR:=Boxed.frozen hI.res;have au:=hI.few;have aA:=hI.size;have av:Hid (BoxC W Bx (.int .i64 xk) (.slice N I J) (.slice H F G) (.slice U O T)):=a0;obtain ⟨q0,q1,q2,q3⟩:=a0.cells;have an:Hid (RdC lo hi w dx (.agg #[.int .i64 xk,.slice N I J,.slice H F G,.slice U O T]) cx):=rd;have a1:Hid (((pre++[(⟨deep,.agg #[.int .i64 xk,.slice N I J,.slice H F G,.slice U O T],cx,dx,rd⟩:Item lo hi w)]).map Item.m).all okOne=(decide (deep≤6) && shapeB cx)):=by unfold Hid;rw [all_okOne_snoc,HI.out.good];rfl
  have ar:Bx≠w.heap.size+1+1:=by omega
  have aq:w.heap.size+1+1≠Bx:=by omega
  have ay:w.heap.size+1<W.heap.size:=by omega
  have ax:w.heap.size+1+1<W.heap.size:=by omega
  have ac:(pre++[(⟨deep,.agg #[.int .i64 xk,.slice N I J,.slice H F G,.slice U O T],cx,dx,rd⟩:Item lo hi w)]).length=pre.length+1:=by simp
  have a5:Hid ((pre++[(⟨deep,.agg #[.int .i64 xk,.slice N I J,.slice H F G,.slice U O T],cx,dx,rd⟩:Item lo hi w)]).length=pre.length+1):=ac;have ai:Hid (KpC w.heap.size (w.heap.size+1+1+1+1+1+1) W (W.setCell ⟨w.heap.size+1+1,0,none⟩ (.int .i64 ((pre.length:Int)+1)))):=KpC.set W _ _ (by omega) (by omega);have V:Hid (Below w.heap.size w (W.setCell ⟨w.heap.size+1+1,0,none⟩ (.int .i64 ((pre.length:Int)+1)))):=HI.out.bel.trans ai.out.1;have ah:Hid (RdC lo hi (W.setCell ⟨w.heap.size+1+1,0,none⟩ (.int .i64 ((pre.length:Int)+1))) dx (.agg #[.int .i64 xk,.slice N I J,.slice H F G,.slice U O T]) cx):=an.out.below V.out ad;have j:Hid (Boxed (W.setCell ⟨w.heap.size+1+1,0,none⟩ (.int .i64 ((pre.length:Int)+1))) (w.heap.size+1) 4 (.bool false)):=boxed_setOther HI.out.res (by omega) _;have X:Hid (Boxed (W.setCell ⟨w.heap.size+1+1,0,none⟩ (.int .i64 ((pre.length:Int)+1))) (w.heap.size+1+1) 3 (.int .i64 ((pre.length:Int)+1))):=Boxed.set _ HI.out.cnt;clear hI a0 hr a8 ac;by_cases h16:pre.length=16
  · rw [h16] at j V
    gi_wp2
    refine ⟨trivial,?_⟩
    gi_wp2
    exact ⟨((KeepsOthers.setCell _ _ _).trans (KeepsOthers.setCell _ _ _)).from _,rfl,Boxed.set _ j.out,V.out.setCell (p:=⟨w.heap.size+1,0,none⟩) (by show w.heap.size≤w.heap.size+1;omega) _,.inl (by rw [a5.out];omega)⟩
  have d1:decide ((16:Int)<(pre.length:Nat)+1)=false:=by simp;omega
  by_cases h6:6<deep
  · have d2:(6:Int)<(deep:Int):=by omega
    have HO:Hid ((decide (deep≤6) && shapeB cx)=false):=by unfold Hid;rw [show decide (deep≤6)=false from by simp;omega];rfl
    gi_wp2
    refine ⟨trivial,?_⟩
    gi_wp2
    exact ⟨((KeepsOthers.setCell _ _ _).trans (KeepsOthers.setCell _ _ _)).from _,rfl,Boxed.set _ j.out,V.out.setCell (p:=⟨w.heap.size+1,0,none⟩) (by show w.heap.size≤w.heap.size+1;omega) _,.inr (a1.out.trans HO.out)⟩
  have d2:decide ((6:Int)<(deep:Int))=false:=by simp;omega
  have d3:decide (deep≤6)=true:=by simp;omega
  have ab:hi≤(W.setCell ⟨w.heap.size+1+1,0,none⟩ (.int .i64 ((pre.length:Int)+1))).heap.size:=by simp;omega
  have ag:Hid (hi≤(W.setCell ⟨w.heap.size+1+1,0,none⟩ (.int .i64 ((pre.length:Int)+1))).heap.size):=ab;clear ab;cases hS:shapeB cx
  · have HO:Hid ((decide (deep≤6) && shapeB cx)=false):=by unfold Hid;rw [hS,d3];rfl
    gi_wp2
    refine ⟨trivial,?_⟩;refine (CallsIn.inRound l (callsIn_wide.2 (shapeOk_any ah.out ag.out))).mono ?_;rintro e w1 ⟨rfl,A⟩;rw [hS];have z:=boxed_below j.out A (Boxed.lt j.out);have c2:=Boxed.cell z;have f2:=Boxed.frozen z;have a6:Hid (KeepsOthers (W.setCell ⟨w.heap.size+1+1,0,none⟩ (.int .i64 ((pre.length:Int)+1))) w1):=keepsOthers_below A;have a2:Hid (Below w.heap.size w w1):=V.out.trans (A.mono V.out.size);have E:Hid (Boxed w1 (w.heap.size+1) 4 (.bool false)):=z;clear A z
    gi_wp2
    exact ⟨(((KeepsOthers.setCell _ _ _).trans a6.out).trans (KeepsOthers.setCell _ _ _)).from _,rfl,Boxed.set _ E.out,a2.out.setCell (p:=⟨w.heap.size+1,0,none⟩) (by show w.heap.size≤w.heap.size+1;omega) _,.inr (a1.out.trans HO.out)⟩
  have HO:Hid ((decide (deep≤6) && shapeB cx)=true):=by unfold Hid;rw [hS,d3];rfl
  gi_wp2
  refine ⟨trivial,?_⟩;refine (CallsIn.inRound l (callsIn_wide.2 (shapeOk_any ah.out ag.out))).mono ?_;rintro e w1 ⟨rfl,A⟩;rw [hS];have a6:Hid (KeepsOthers (W.setCell ⟨w.heap.size+1+1,0,none⟩ (.int .i64 ((pre.length:Int)+1))) w1):=keepsOthers_below A;have a2:Hid (Below w.heap.size w w1):=V.out.trans (A.mono V.out.size);have a3:Hid (KpC w.heap.size (w.heap.size+1+1+1+1+1+1) W w1):=ai.out.trans (KpC.of_below A V.out.size);have E:Hid (Boxed w1 (w.heap.size+1) 4 (.bool false)):=boxed_below j.out A (Boxed.lt j.out);have a4:Hid (Boxed w1 (w.heap.size+1+1) 3 (.int .i64 ((pre.length:Int)+1))):=boxed_below X.out A (Boxed.lt X.out);have ap:W.heap.size≤w1.heap.size:=a3.out.1.size;clear A
  gi_wp2
  exact ⟨((KeepsOthers.setCell _ _ _).trans a6.out).from _,a3.out,E.out,by rw [a5.out];exact a4.out,a2.out,by rw [a5.out];omega,a1.out.trans HO.out,by omega⟩
 case done =>
  rintro D ys W hD hS hI hK;have cR:=Boxed.cell hI.res;have fR:=Boxed.frozen hI.res;have hE:conOk c=true:=conOk_of_all hS hI.few hI.good
  gi_wp2
  have af:(W.setCell ⟨w.heap.size+1,0,none⟩ (.bool true)).heap[D]?=some (.deferred (some [])):=(KeepsOthers.setCell _ _ _).same D _ hK rfl;refine ⟨by simp,.inl ⟨_,_,rfl,run_takeDeferred af,?_⟩⟩;have hB:=boxed_noncells (Boxed.set (.bool true) hI.res) (grownBy_putObj' _ D (.deferred none)) (fun r e=>by cases e;exact ⟨_,af,rfl⟩);have cB:=Boxed.cell hB;exact ⟨.bool true,by simp [results, Tryz.results57,go_sem,cB],rb hE.symm,(hI.bel.setCell (p:=⟨w.heap.size+1,0,none⟩) (by show w.heap.size≤w.heap.size+1;omega) _).grown (grownBy_putObj' _ D _) (by have:=Boxed.lt hI.res;simp;omega) (fun k e=>by cases e;omega)⟩
 case stop =>
  rintro D cd pre W hD a7 hI hK;obtain ⟨rfl,Z,a9,aa⟩:=hI;have cR:=Boxed.cell Z;have hE:conOk c=false:=conOk_of_part a7 aa
  gi_wp2
  refine ⟨by simp,.inl ⟨_,_,rfl,run_takeDeferred hK,?_⟩⟩;have hB:=boxed_noncells Z (grownBy_putObj' _ D (.deferred none)) (fun r e=>by cases e;exact ⟨_,hK,rfl⟩);have cB:=Boxed.cell hB;exact ⟨.bool false,by simp [results, Tryz.results57,go_sem,cB],rb hE.symm,a9.grown (grownBy_putObj' _ D _) (by have:=Boxed.lt Z;omega) (fun k e=>by cases e;omega)⟩
end

section
open Go.RowKit
def conText (c:CN):List Int:=if conOk c=true then textC c else []
theorem textJ_byte {cs:List CN} (h:∀ c∈cs,∀ x∈textC c,0≤x∧x≤255):∀ (i:Nat),∀ x∈textJ i cs,0≤x∧x≤255:=by
 induction cs with
 | nil=>intro i x hx;simp [textJ] at hx
 | cons c cs ih =>
  intro i x hx;simp only [textJ,List.mem_append] at hx;rcases hx with (hx | hx) | hx
  · unfold gapT at hx;split at hx <;> simp at hx;omega
  · exact h c (by simp) x hx
  exact ih (fun c hc=>h c (by simp [hc])) _ x hx
theorem Rd.mem {lo hi:Nat} {w:World} {a:Option Addr} {n X:Nat} {zs:List Int} (h:Rd lo hi w a n X zs):∀ x∈zs,0≤x∧x≤255:=by
 intro x hx;obtain ⟨j,hj,rfl⟩:=List.mem_iff_getElem.1 hx;have:=h.byte j
 rwa [List.getD,List.getElem?_eq_getElem hj] at this
theorem textC_byte {lo hi:Nat} {w:World}:∀ {d:Nat} {v:Value} {c:CN},RdC lo hi w d v c→∀ x∈textC c,0≤x∧x≤255:=by
 intro d
 induction d with
 | zero=>intro v c h;exact h.elim
 | succ d ih =>
  intro v c h x hx;obtain ⟨na,nn,nc,ra,rn,rc,ka,kn,kc,_,h1,h2,h3⟩:=h
  have A:∀ c'∈c.kids,∀ x∈textC c',0≤x∧x≤255:=by
   intro c' U;obtain ⟨j,hj,rfl⟩:=List.mem_iff_getElem.1 U;rcases h3.cells with h0 | ⟨b,off,_,_,_,hc⟩
   · have:=h3.len;omega
   obtain ⟨v0,v1,v2,v3,_,_,_,_,hr⟩:=hc j (by have:=h3.len;omega);rw [List.getD,List.getElem?_eq_getElem hj] at hr;exact ih hr
  rw [textC_eq] at hx
  split at hx
  · exact h1.mem x hx
  split at hx
  · exact wordOf_byte _ x hx
  simp only [List.mem_append,List.mem_singleton] at hx;rcases hx with (((hx | hx) | hx) | hx) | hx
  · exact wordOf_byte _ x hx
  · omega
  · unfold roleT at hx
    split at hx
    · simp at hx
    simp only [List.mem_append,List.mem_singleton] at hx;rcases hx with hx | hx
    · exact h2.mem x hx
    omega
  · exact textJ_byte A _ x hx
  omega
theorem shape_short {c:CN} (h:shapeB c=true):(c.kind=2→c.name.length≤6)∧(roleT c.role).length≤7:=by
 unfold shapeB at h;simp only [Bool.and_eq_true] at h;obtain ⟨h1,h2,_⟩:=h;refine ⟨fun hk=>?_,?_⟩
 · unfold nameFit at h1;rw [if_pos hk,Bool.and_eq_true] at h1;exact (longB_of_up h1.1).2
 unfold roleT
 split
 · simp
 rename_i hne
 unfold roleFit at h2
 split at h2
 · have:=(longB_of_low h2).2;simp only [List.length_append,List.length_cons,List.length_nil];omega
 exact absurd (List.eq_nil_of_length_eq_zero (by simpa using h2)) hne
mutual
theorem textC_short:∀ (c:CN) (deep:Nat),wfC c=true→(textC c).length+1≤20*(parts c deep).length
 | .mk k n r ks,deep,h=>by
  rw [wfC,Bool.and_eq_true] at h;obtain ⟨s1,s2⟩:=shape_short h.1;have h1:=textJ_short ks 0 (deep+1) h.2;have h2:=wordOf_len k;have T:k=2→n.length≤6:=s1;have a2:(roleT r).length≤7:=s2;rw [textC,parts,List.length_cons]
  split
  · rename_i hk;have:=T hk;omega
  split
  · omega
  simp only [List.length_append,List.length_cons,List.length_nil];omega
theorem textJ_short:∀ (cs:List CN) (i deep:Nat),wfL cs=true→(textJ i cs).length≤20*(partsL cs deep).length
 | [],_,_,_=>by simp [textJ]
 | c :: cs,i,deep,h=>by
  rw [wfL,Bool.and_eq_true] at h;have h1:=textC_short c deep h.1;have h2:=textJ_short cs (i+1) deep h.2;have h3:=gapT_len i;rw [textJ,partsL];simp only [List.length_append];omega
end
theorem conText_short (c:CN):(conText c).length≤320:=by
 unfold conText
 split
 · rename_i h
   have h1:=textC_short c 1 (wfC_of_ok h);unfold conOk at h;simp only [Bool.and_eq_true,decide_eq_true_eq] at h;omega
 simp
set_option maxHeartbeats 1000000 in
theorem implConText_any {d:Nat} {v:Value} {c:CN} {w:World} {lo hi:Nat} (h:RdC lo hi w d v c) (D:hi≤w.heap.size) (V:c.bulk≤1048576) :
    Calls Tryz.prog 30 #[v] w fun e w'=>∃ v',e=.returned v'∧OwnB w.heap.size w' v' (conText c)∧Below w.heap.size w w':=by
 have O:Hid (RdC lo hi w d v c):=h;obtain ⟨k,na,nn,nc,ra,rn,rc,ka,kn,kc,rfl⟩:=h.shape;have G:Below w.heap.size w (w.alloc (.cells #[.int .i64 k,.slice na nn nc,.slice ra rn rc,.slice ka kn kc] 37)):=(Below.refl _ _).alloc (Nat.le_refl _) _;have H:Hid (Below w.heap.size w (w.alloc (.cells #[.int .i64 k,.slice na nn nc,.slice ra rn rc,.slice ka kn kc] 37))):=G;have Z:Hid (RdC lo hi (w.alloc (.cells #[.int .i64 k,.slice na nn nc,.slice ra rn rc,.slice ka kn kc] 37)) d (.agg #[.int .i64 k,.slice na nn nc,.slice ra rn rc,.slice ka kn kc]) c):=O.out.below G D;have z:Hid (BoxC (w.alloc (.cells #[.int .i64 k,.slice na nn nc,.slice ra rn rc,.slice ka kn kc] 37)) w.heap.size (.int .i64 k) (.slice na nn nc) (.slice ra rn rc) (.slice ka kn kc)):=BoxC.new w _ _ _ _;clear G h;go_enter Tryz.func30, Tryz.ntmps30;go_wp2_with fail;refine (implConOk_any Z.out (Nat.le_trans D H.out.size) V).mono ?_;rintro e w1 ⟨rfl,F⟩;have E:Hid (Below w.heap.size w w1):=H.out.trans (F.mono H.out.size);have I:Hid (BoxC w1 w.heap.size (.int .i64 k) (.slice na nn nc) (.slice ra rn rc) (.slice ka kn kc)):=z.out.below F z.out.lt;obtain ⟨q0,q1,q2,q3⟩:=I.out.cells;clear F;cases hok:conOk c
 · have HE:Hid (conText c=[]):=by unfold Hid conText;rw [hok];rfl
   go_wp2_with fail;go_ret;exact ⟨_,rfl,by rw [HE.out];exact OwnB.nil _ _,E.out⟩
 have HE:Hid (conText c=textC c):=by unfold Hid conText;rw [hok];rfl
 have Y:Hid (wfC c=true):=wfC_of_ok hok;have a3:=textC_len c;go_wp2_with fail;refine (addC_any d _ c (.slice none 0 0) [] w1 w.heap.size lo hi (O.out.below E.out D) D E.out.size Y.out (OwnB.nil _ _) (by simp;omega)).mono ?_;rintro e w2 ⟨v2,rfl,J,N⟩;have a0:Hid (OwnB w.heap.size w2 v2 (textC c)):=by unfold Hid;simpa using J
 have a1:Hid (Below w.heap.size w w2):=E.out.trans N.1;clear J N;go_wp2_with fail;go_ret;exact ⟨_,rfl,by rw [HE.out];exact a0.out,a1.out⟩
end

end Go.Proofs.YtocpeiaolofodaaGreat
