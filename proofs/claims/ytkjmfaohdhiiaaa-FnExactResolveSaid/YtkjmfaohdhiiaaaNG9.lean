/- Several texts in one: BackTell, ResL. -/
import Derived.Test.YtkjmfaohdhiiaaaNG7
import Derived.RangeFuncNested
import Derived.RangeFuncBound
import Derived.RangeFuncCalls
import Derived.RangeFuncLeaves
import Derived.RangeFuncBox
import Derived.Shelf.Abstract
import Derived.Shelf.RegionOpen
import Derived.OwnWalkIn
import Derived.TacticsInMore
import Derived.LoopNIn
import Derived.LoopIn
import Derived.Laws.EntriesVeiled
import Derived.Sort.CutIn
namespace Go.Proofs.Ytkjmfaohdhiiaaa

section
open Go.RowKit Go.Shelf
set_option linter.unusedVariables false
attribute [local go_sem] Oper.semAt_some
theorem about_wideB {o:Oper} {P:Program} {w:World} {ev:Operand→Value}:(∀ f,o.about P w ev=some f→Fence.wide.fn f) ↔ True:=by simp [Fence.wide]
attribute [local go_sem ↓] about_wideB
theorem yieldAt_wideB {m:Nat} (m':Nat) {P:Program} {l:Nat} {args:Array Value} {W:World} {R:Ending→World→Prop} (h:YieldAt Fence.wide m P l args W R):YieldAt Fence.wide m' P l args W R:=by
 obtain ⟨fn,tmps,assign,body,hy,hR⟩:=h;exact ⟨fn,tmps,assign,body,hy,⟨hR.1,fun c cs _=>hR.2 c cs (fun d h=>by cases h)⟩⟩
def KpB (B n1:Nat) (W W':World):Prop:=Below B W W'∧∀ (b:Nat) (o:Obj),n1≤b→W.heap[b]?=some o→o.isCells=true→W'.heap[b]?=some o
theorem KpB.refl (B n1:Nat) (W:World):KpB B n1 W W:=⟨Below.refl _ _,fun _ _ _ h _=>h⟩
theorem KpB.trans {B n1:Nat} {A C D:World} (h:KpB B n1 A C) (k:KpB B n1 C D):KpB B n1 A D:=⟨h.1.trans k.1,fun b o h1 h2 h3=>k.2 b o h1 (h.2 b o h1 h2 h3) h3⟩
theorem KpB.of_below {B n1:Nat} {W W':World} (h:Below W.heap.size W W') (hB:B≤W.heap.size):KpB B n1 W W':=⟨h.mono hB,fun b _ _ h2 _=>(h.block b (Array.getElem?_eq_some_iff.1 h2).1).trans h2⟩
theorem KpB.putObj {B n1:Nat} (W:World) (l:Nat) (o o':Obj) (hB:B≤l) (hl:W.heap[l]?=some o) (ho:o.isCells=false):KpB B n1 W (W.putObj l o') :=
 ⟨(Below.refl B W).grown (grownBy_putObj' W l o') (by have:=(Array.getElem?_eq_some_iff.1 hl).1;omega) (fun k e=>by cases e;exact hB),fun b o2 _ hb hc=>(World.putObj_heap_other (fun e=>by subst e;rw [hl] at hb;cases hb;rw [ho] at hc;cases hc)).trans hb⟩
abbrev BT:Type:=Nat × Int × Int
def encB (x:BT):Array Value:=#[.int .i64 (x.1:Nat),.agg #[.int .i64 x.2.1,.int .i64 x.2.2]]
def itemB (xs:List PT) (i:Nat):BT:=(i,(xs.getD i (0,0)).1,(xs.getD i (0,0)).2)
def toldB (xs:List PT) (n j:Nat):List BT:=(List.range j).map (fun d=>itemB xs (n - 1 - d))
theorem toldB_succ (xs:List PT) (n j:Nat):toldB xs n (j+1)=toldB xs n j++[itemB xs (n - 1 - j)]:=by simp [toldB,List.range_succ]
theorem toldB_len (xs:List PT) (n j:Nat):(toldB xs n j).length=j:=by simp [toldB]
theorem toldB_prefix (xs:List PT) {n j:Nat} (h:j≤n):toldB xs n j <+: toldB xs n n:=by
 have e:(toldB xs n n).take j=toldB xs n j:=by simp [toldB,← List.map_take,List.take_range,Nat.min_eq_left h]
 rw [← e];exact List.take_prefix _ _
set_option maxRecDepth 100000 in
set_option maxHeartbeats 4000000 in
theorem back_in {lo hi B n1 l:Nat} {J Jx:List BT→World→Prop} {B':Nat} (hJ:AbidesFrom B' J) (E:hi≤B) (n' Bt:Nat) (s:n1≤Bt)
    {ia:Option Addr} {im ic:Nat} {xs:List (Int × Int)} (W:World) (hR:RP lo hi W ia im ic xs)
    (hY:∀ m r x W,J r W→r.length<im→YieldAt Fence.wide m Try.prog l (encB x) W fun e W' =>
     (e=.returned (.bool true)∧J (r++[x]) W'∧KpB B n1 W W')∨(e=.returned (.bool false)∧Jx (r++[x]) W'))
    (u:W.heap[Bt]?=some (.cells #[.slice ia im ic] 30 (0,0))) (h0:J [] W) :
    CallsIn Fence.wide n' Try.prog 122 #[.func (.yield l) #[] #[],.pointer (some ⟨Bt,0,none⟩)] W fun e W'=>(∃ v,e=.returned v) ∧
     ((∃ ys,ys=toldB xs im im∧J ys W')∨(∃ r,r <+: toldB xs im im∧Jx r W')):=by
 have a2:=hR.fits;have HR:Hid (∀ V,KpB B n1 W V→RP lo hi V ia im ic xs):=fun V hV=>hR.below hV.1 E
 have T:Hid (∀ V,KpB B n1 W V→V.cell? ⟨Bt,0,none⟩=some (.slice ia im ic)):=fun V hV=>by have:=hV.2 Bt _ s u rfl;simp [World.cell?,this]
 have HY:Hid (∀ m r x W,J r W→r.length<im→YieldAt Fence.wide m Try.prog l (encB x) W fun e W' =>
     (e=.returned (.bool true)∧J (r++[x]) W'∧KpB B n1 W W')∨(e=.returned (.bool false)∧Jx (r++[x]) W')):=hY
 have a1:Hid (J [] W):=h0;have N:Hid (KpB B n1 W W):=KpB.refl _ _ _;have z0:=T.out _ N.out;clear hY hR h0 u;refine callsIn_of_wp Try.func122 rfl trivial ?_ rfl;simp only [Try.ntmps122,List.size_toArray,List.length_cons,List.length_nil,Nat.reduceAdd,Nat.reduceSub,Array.replicate_succ,Array.replicate_zero,List.push_toArray,List.append_toArray,List.nil_append,List.cons_append]
 gi_wp2_with fail
 clear z0
 gi_loopw [3] (fun i wr=>∃ (n:Nat),n≤im∧i=.int .i64 ((n:Int) - 1)∧J (toldB xs im (im - n)) wr∧KpB B n1 W wr) (fun i _=>(intOf i+1).toNat)
 case atStart=>exact ⟨im,Nat.le_refl _,by first | rfl | go_num,by rw [Nat.sub_self];exact a1.out,N.out⟩
 case round =>
  obtain ⟨n,hn,rfl,F,t⟩:=hrel;have O:Hid (J (toldB xs im (im - n)) wr):=F;have Y:Hid (KpB B n1 W wr):=t;cases n with
  | zero =>
   clear F t
   gi_wp2_with fail
   go_end0;exact ⟨⟨_,rfl⟩,.inl ⟨_,rfl,by have:=O.out;rw [Nat.sub_zero] at this;exact this⟩⟩
  | succ i =>
   have e1:(((i+1:Nat):Int) - 1)=(i:Int):=by omega
   rw [e1];have a3:(i:Int)<(im:Int):=by omega
   have z0:=T.out _ t;have hR:=HR.out _ t;rcases hR.cells with h0 | ⟨g,off,rfl,h1,h2,hc⟩
   · omega
   obtain ⟨c0,c1⟩:=hc i (by omega)
   have HE:Hid (toldB xs im (im - i)=toldB xs im (im - (i+1))++[itemB xs i]):=by
    have e2:im - i=im - (i+1)+1:=by omega
    rw [Hid,e2,toldB_succ];have e3:im - 1 - (im - (i+1))=i:=by omega
    rw [e3]
   have z:=HY.out (n' - 1) (toldB xs im (im - (i+1))) (itemB xs i) wr O.out (by rw [toldB_len];omega);unfold encB itemB at z;dsimp only at z;obtain ⟨p,hp⟩:∃ p,p=(xs.getD i (0,0)).1:=⟨_,rfl⟩;obtain ⟨q,hq⟩:∃ q,q=(xs.getD i (0,0)).2:=⟨_,rfl⟩;rw [← hp,← hq] at z;rw [← hp] at c0;rw [← hq] at c1;have HI:Hid (itemB xs i=(i,p,q)):=by rw [Hid,itemB,← hp,← hq]
   obtain ⟨fn,tmps,assign,body,hy,L⟩:=z
   have G:Hid (RoundIn Fence.wide (n' - 1) Try.prog l fn tmps assign body wr fun e W' =>
       (e=.returned (.bool true)∧J (toldB xs im (im - (i+1))++[(i,p,q)]) W'∧KpB B n1 wr W')∨(e=.returned (.bool false)∧Jx (toldB xs im (im - (i+1))++[(i,p,q)]) W')):=L
   clear L hc hR F t hp hq
   gi_wp2_with fail
   refine ⟨fun h=>(by cases h),?_⟩;refine G.out.mono ?_;rintro e W6 (⟨rfl,M,I⟩ | ⟨rfl,H⟩)
   · have a0:Hid (J (toldB xs im (im - i)) W6):=by rw [Hid,HE.out,HI.out];exact M
     have Z:Hid (KpB B n1 W W6):=Y.out.trans I;clear M I hy G z0 c0 c1
     gi_wp2_with fail
     go_roundw
     case rel=>exact ⟨i,by omega,by first | rfl | go_num,a0.out,Z.out⟩
     case measure=>simp [intOf]
   have X:Hid (Jx (toldB xs im (im - i)) W6):=by rw [Hid,HE.out,HI.out];exact H
   clear H hy G z0 c0 c1
   gi_wp2_with fail
   (try simp only [Exit.inBlock,Exit.then]);refine bodyPost_ret (results_none rfl _ _ _) rfl ?_;exact ⟨⟨_,rfl⟩,.inr ⟨_,toldB_prefix xs (Nat.sub_le _ _),X.out⟩⟩
theorem back_stops {lo hi B n1:Nat} (n Bt:Nat) {w:World} (E:hi≤B) (U:B≤w.heap.size) (s:n1≤Bt)
    {ia:Option Addr} {im ic:Nat} {xs:List (Int × Int)} (hR:RP lo hi w ia im ic xs)
    (u:w.heap[Bt]?=some (.cells #[.slice ia im ic] 30 (0,0))) :
    SeqStopsK Fence.wide n Try.prog 122 #[.pointer (some ⟨Bt,0,none⟩)] encB (KpB B n1) (fun ys=>ys=toldB xs im im) (fun r=>r <+: toldB xs im im) im w:=fun _ _ _ W hW hJ _ hY h0 =>
 back_in hJ E n Bt s W (hR.below hW (Nat.le_trans E U)) (fun m r x W hj hl=>yieldAt_wideB m (hY r x W hj hl)) ((hW.block Bt (Array.getElem?_eq_some_iff.1 u).1).trans u) h0
theorem whoN_of_told {xs:List PT} {n:Nat}:∀ j,j≤n→(∀ x∈toldB xs n j,noneB x.2.1 x.2.2=true)→whoN xs n=whoN xs (n - j)
 | 0,_,_=>by rw [Nat.sub_zero]
 | j+1,hj,h=>by
  have h1:=whoN_of_told (xs:=xs) (n:=n) j (by omega) (fun x hx=>h x (by rw [toldB_succ];exact List.mem_append_left _ hx));have h2:=h (itemB xs (n - 1 - j)) (by rw [toldB_succ];simp);have e:n - j=n - (j+1)+1:=by omega
  have e2:n - 1 - j=n - (j+1):=by omega
  rw [e2] at h2;rw [h1,e,whoN];unfold itemB at h2;dsimp only at h2;rw [if_pos h2]
theorem whoN_told_all {xs:List PT} {n:Nat} (h:∀ x∈toldB xs n n,noneB x.2.1 x.2.2=true):whoN xs n=none:=by
 rw [whoN_of_told n (Nat.le_refl _) h,Nat.sub_self];rfl
theorem whoN_told_hit {xs:List PT} {n:Nat} {r:List BT} {x:BT} (hp:r++[x] <+: toldB xs n n) (h:∀ y∈r,noneB y.2.1 y.2.2=true) (hx:noneB x.2.1 x.2.2=false):whoN xs n=some x.1:=by
 have hl:=hp.length_le;rw [toldB_len,List.length_append,List.length_singleton] at hl;have e:=List.prefix_iff_eq_take.1 hp;have e2:(toldB xs n n).take (r.length+1)=toldB xs n (r.length+1):=by simp [toldB,← List.map_take,List.take_range,Nat.min_eq_left hl]
 rw [List.length_append,List.length_singleton,e2,toldB_succ] at e;obtain ⟨e3,e4⟩:=List.append_inj' e rfl;simp only [List.cons.injEq,and_true] at e4;have h1:=whoN_of_told (xs:=xs) (n:=n) r.length (by omega) (fun y hy=>h y (by rw [e3];exact hy));have e5:n - r.length=n - 1 - r.length+1:=by omega
 rw [h1,e5,whoN];rw [e4] at hx ⊢;unfold itemB at hx ⊢;dsimp only at hx ⊢;rw [hx];rfl
end

section
open Go.RowKit Go.Shelf
set_option linter.unusedVariables false
attribute [local go_sem] Oper.semAt_some
attribute [local go_sem ↓] about_wideB
theorem cells_noncellsB {W W':World} {B:Nat} {c:Array Value} {t:TypeId} {fz:Nat × Nat} {row:Option Nat} (h:W.heap[B]?=some (.cells c t fz)) (hg:W.grownBy W' row)
    (hr:∀ r,row=some r→∃ o:Obj,W.heap[r]?=some o∧o.isCells=false):W'.heap[B]?=some (.cells c t fz) :=
 (hg.block B (Array.getElem?_eq_some_iff.1 h).1 (fun e=>by
  obtain ⟨o,ho,hc⟩:=hr B e.symm
  rw [h] at ho;cases ho;cases hc)).trans h
theorem boxed_noncellsB {W W':World} {B t:Nat} {v:Value} {row:Option Nat} (h:Boxed W B t v) (hg:W.grownBy W' row)
    (hr:∀ r,row=some r→∃ o:Obj,W.heap[r]?=some o∧o.isCells=false):Boxed W' B t v:=cells_noncellsB h hg hr
theorem boxed_belowB {W W':World} {B t:Nat} {v:Value} (h:Boxed W B t v) {n:Nat} (hb:Below n W W') (hn:B<n):Boxed W' B t v:=(hb.block B hn).trans h
theorem keepsOthers_belowB {W W':World} (h:Below W.heap.size W W'):KeepsOthers W W':=⟨h.size,fun k _ hk _=>(h.block k (Array.getElem?_eq_some_iff.1 hk).1).trans hk⟩
theorem backward_in (n:Nat) {ia:Option Addr} {im ic:Nat} (w:World) :
    CallsIn Fence.wide n Try.prog 121 #[.slice ia im ic] w fun e w'=>e=.returned (.func (.func 122) #[] #[.pointer (some ⟨w.heap.size,0,none⟩)])∧w'=w.alloc (.cells #[.slice ia im ic] 30):=by
 refine callsIn_of_wp Try.func121 rfl trivial ?_ rfl;simp only [Try.ntmps121,List.size_toArray,List.length_cons,List.length_nil,Nat.reduceAdd,Nat.reduceSub,Array.replicate_succ,Array.replicate_zero,List.push_toArray,List.append_toArray,List.nil_append,List.cons_append]
 gi_wp2
 go_ret;exact ⟨rfl,rfl⟩
structure InvL (s n1:Nat) (w:World) (d:List BT) (W:World):Prop where
 res:Boxed W s 3 (.int .i64 0)
 bel:Below s w W
 good:∀ y∈d,noneB y.2.1 y.2.2=true
 size:n1≤W.heap.size
structure InvLx (s:Nat) (w:World) (c:Code) (d:List BT) (W:World):Prop where
 code:c=.ret
 bel:Below s w W
 bad:∃ p x,d=p++[x]∧(∀ y∈p,noneB y.2.1 y.2.2=true)∧noneB x.2.1 x.2.2=false∧Boxed W s 3 (.int .i64 (x.1:Nat))
theorem InvL.own {s n1:Nat} {w:World} {B:Nat} (hB:s≤B):OwnFrom B (InvL s n1 w):=by
 rintro d W W' row ⟨h1,h4,h5,h6⟩ hg hr;have:s≤W.heap.size:=by have:=Boxed.lt h1;omega
 exact ⟨boxed_noncellsB h1 hg fun r e=>(hr r e).2,h4.grown hg this fun k e=>by have:=(hr k e).1;omega,h5,Nat.le_trans h6 hg.size⟩
theorem InvLx.own {s:Nat} {w:World} {B:Nat} (hB:s≤B) (c:Code):OwnFrom B (InvLx s w c):=by
 rintro d W W' row ⟨h0,h3,p,x,q1,q2,q3,h1⟩ hg hr;have:s≤W.heap.size:=by have:=Boxed.lt h1;omega
 exact ⟨h0,h3.grown hg this fun k e=>by have:=(hr k e).1;omega,p,x,q1,q2,q3,boxed_noncellsB h1 hg fun r e=>(hr r e).2⟩
def AxB (n1:Nat) (f:Value→Value→Value→Array Value) (x:BT) (a':Act) (W:World):Prop :=
 ∃ Bx:Nat,n1≤Bx∧W.heap[Bx]?=some (.cells #[.int .i64 x.2.1,.int .i64 x.2.2] 29 (0,0))∧a'={ tmps:=f (.int .i64 (x.1:Nat)) (.agg #[.int .i64 x.2.1,.int .i64 x.2.2]) (.pointer (some ⟨Bx,0,none⟩)),defers:=[] }
theorem AxB.own {n1 B:Nat} {f:Value→Value→Value→Array Value} (x:BT) (a':Act):OwnFrom B (fun (_:Unit) W=>AxB n1 f x a' W):=by
 rintro _ W W' row ⟨Bx,h1,h2,h3⟩ hg hr;exact ⟨Bx,h1,cells_noncellsB h2 hg fun r e=>(hr r e).2,h3⟩
set_option maxRecDepth 100000 in
set_option maxHeartbeats 4000000 in
theorem lastWho_any {ia:Option Addr} {im ic:Nat} {xs:List (Int × Int)} {w:World} {lo hi:Nat} (hR:RP lo hi w ia im ic xs) (O:hi≤w.heap.size) :
    Calls Try.prog 120 #[.slice ia im ic] w fun e w'=>e=.returned (.int .i64 (whoI (whoN xs im)))∧Below w.heap.size w w':=by
 obtain ⟨W,hW⟩:∃ W,W=w.alloc (.cells #[.int .i64 0] 3):=⟨_,rfl⟩;have HW:Hid (W=w.alloc (.cells #[.int .i64 0] 3)):=hW;have G:Below w.heap.size w W:=by rw [hW];exact (Below.refl _ _).alloc (Nat.le_refl _) _
 have T:Hid (Below w.heap.size w W):=G;have U:w.heap.size<W.heap.size:=by rw [hW];simp
 have N:Boxed W w.heap.size 3 (.int .i64 0):=by rw [hW];exact Boxed.new w 3 (.int .i64 0)
 have a4:Hid (Boxed W w.heap.size 3 (.int .i64 0)):=N;have a3:Hid (RP lo hi W ia im ic xs):=hR.below G O;have M:∀ V:World,(Instr.build 29 #[]).run Try.prog V=.ok (.agg #[.int .i64 0,.int .i64 0]) V:=fun V=>run_build V _ _ _ (by kernel_rfl)
 clear hR G N hW;refine (callsIn_wide (n:=6)).1 ?_;refine callsIn_of_wp_marks Try.func120 rfl trivial ?_ rfl;simp only [Try.ntmps120,List.size_toArray,List.length_cons,List.length_nil,Nat.reduceAdd,Nat.reduceSub,Array.replicate_succ,Array.replicate_zero,List.push_toArray,List.append_toArray,List.nil_append,List.cons_append]
 gi_upto_region 1 with fail
 rw [← HW.out]
 gi_wp2_with fail
 refine (backward_in _ W).mono ?_;rintro e w2 ⟨rfl,F⟩;have z:Below W.heap.size W w2:=by rw [F];exact (Below.refl _ _).alloc (Nat.le_refl _) _
 have a7:Hid (Below w.heap.size w w2):=T.out.trans (z.mono T.out.size);have X:=z.size;have a6:Hid (w2.heap[W.heap.size]?=some (.cells #[.slice ia im ic] 30 (0,0))):=by rw [Hid,F];exact World.alloc_heap_new W _
 have L:Hid (Boxed w2 w.heap.size 3 (.int .i64 0)):=boxed_belowB a4.out z U;have a5:Hid (RP lo hi w2 ia im ic xs):=a3.out.below z (by omega);clear z F
 gi_wp2_with fail
 refine wpIn_rangeFunc_ownH rfl (by omega) (gf:=122) (lb:=#[.pointer (some ⟨W.heap.size,0,none⟩)]) rfl trivial (enters_of Try.func122 (by kernel_rfl) rfl)
  (back_stops (lo:=lo) (hi:=hi) (B:=w.heap.size) (n1:=W.heap.size) 5 W.heap.size O (by omega) (Nat.le_refl _) a5.out a6.out) KpB.trans
  (fun W l o o' hl hW hc _=>KpB.putObj W l o o' (by omega) hW hc) (Below.refl _ _) (fun _=>rfl)
  (InvL w.heap.size W.heap.size w) (InvLx w.heap.size w) (InvL.own (by omega)) (InvLx.own (by omega))
  ⟨L.out,a7.out,fun y hy=>by simp at hy,X⟩
  (AxB W.heap.size (fun iv pv bx=>#[.slice ia im ic,undef,.pointer (some ⟨w.heap.size,0,none⟩),iv,bx,.slice ia im ic,.func (.func 122) #[] #[.pointer (some ⟨W.heap.size,0,none⟩)],iv,pv,undef,undef,undef,undef])) AxB.own ?assign ?body ?done ?stop
 case assign =>
  rintro l d x W' K hI hK;unfold encB;have a2:=hI.size
  gi_wp2_with fail
  have hB:Below W'.heap.size W' (W'.alloc (.cells #[.int .i64 x.2.1,.int .i64 x.2.2] 29)):=(Below.refl _ _).alloc (Nat.le_refl _) _
  exact hK _ _ ((keepsOthers_belowB hB).from _) (KpB.of_below hB (by omega)) ⟨hI.res.alloc _,hI.bel.alloc (by omega) _,hI.good,Nat.le_trans hI.size hB.size⟩
   ⟨W'.heap.size,a2,World.alloc_heap_new W' _,rfl⟩
 case body =>
  rintro l d x a' W' hl ⟨r',Y⟩ hI ⟨Bx,a8,u,rfl⟩ I;have HI:Hid (InvL w.heap.size W.heap.size w d W'):=hI;have cR:=Boxed.cell hI.res;have fR:=Boxed.frozen hI.res;have l0:W'.cell? ⟨Bx,0,none⟩=some (.int .i64 x.2.1):=by simp [World.cell?,u]
  have l1:W'.cell? ⟨Bx,1,none⟩=some (.int .i64 x.2.2):=by simp [World.cell?,u]
  clear hI u Y I;obtain ⟨i,p,q⟩:=x;dsimp only at l0 l1;by_cases hn:noneB p q=true
  · have HG:Hid (∀ y∈d++[((i,p,q):BT)],noneB y.2.1 y.2.2=true):=by
     intro y hy;rcases List.mem_append.1 hy with h | h
     · exact HI.out.good y h
     simp only [List.mem_singleton] at h;subst h;exact hn
    obtain ⟨rfl,rfl⟩:=noneB_iff.1 hn;clear hn
    gi_wp2_with fail
    exact ⟨(KeepsOthers.refl _).from _,KpB.refl _ _ _,HI.out.res,HI.out.bel,HG.out,HI.out.size⟩
  have E:noneB p q=false:=by simpa using hn
  have HX:Hid (∃ p' x',d++[((i,p,q):BT)]=p'++[x']∧(∀ y∈p',noneB y.2.1 y.2.2=true)∧noneB x'.2.1 x'.2.2=false∧Boxed (W'.setCell ⟨w.heap.size,0,none⟩ (.int .i64 (i:Nat))) w.heap.size 3 (.int .i64 (x'.1:Nat))):=⟨d,(i,p,q),rfl,HI.out.good,E,Boxed.set _ HI.out.res⟩;have a1:¬ (p=0∧q=0):=fun h=>by rw [noneB_iff.2 h] at E;cases E
  clear hn E;by_cases h1:p=0
  · have h2:¬ q=0:=fun h=>a1 ⟨h1,h⟩
    subst h1
    gi_wp2_with fail
    exact ⟨(KeepsOthers.setCell _ _ _).from _,rfl,HI.out.bel.setCell (p:=⟨w.heap.size,0,none⟩) (Nat.le_refl _) _,HX.out⟩
  gi_wp2_with fail
  exact ⟨(KeepsOthers.setCell _ _ _).from _,rfl,HI.out.bel.setCell (p:=⟨w.heap.size,0,none⟩) (Nat.le_refl _) _,HX.out⟩
 case done =>
  rintro D ys W' hD hS hI hK;have m:=hI.good;rw [show ys=toldB xs im im from hS] at m;have HG:Hid (whoI (whoN xs im)=-1):=by rw [Hid,whoN_told_all m];rfl
  have cR:=Boxed.cell hI.res;have fR:=Boxed.frozen hI.res;have HI:Hid (InvL w.heap.size W.heap.size w ys W'):=hI;clear m hS hI
  gi_wp2_with fail
  have R:(W'.setCell ⟨w.heap.size,0,none⟩ (.int .i64 (-1))).heap[D]?=some (.deferred (some [])):=(KeepsOthers.setCell _ _ _).same D _ hK rfl;refine ⟨by simp,.inl ⟨_,_,rfl,run_takeDeferred R,?_⟩⟩;have hB:=boxed_noncellsB (Boxed.set (.int .i64 (-1)) HI.out.res) (grownBy_putObj' _ D (.deferred none)) (fun r e=>by cases e;exact ⟨_,R,rfl⟩);have cB:=Boxed.cell hB;exact ⟨.int .i64 (-1),by simp [results, Try.results120,go_sem,cB],ri HG.out.symm,(HI.out.bel.setCell (p:=⟨w.heap.size,0,none⟩) (Nat.le_refl _) _).grown (grownBy_putObj' _ D _) (by have:=Boxed.lt HI.out.res;simp;omega) (fun k e=>by cases e;omega)⟩
 case stop =>
  rintro D cd d W' hD H hI hK;obtain ⟨rfl,J,p',x',rfl,a0,Z,A⟩:=hI;have HG:whoI (whoN xs im)=(x'.1:Int):=by rw [whoN_told_hit H a0 Z];rfl
  gi_wp2
  refine ⟨by simp,.inl ⟨_,_,rfl,run_takeDeferred hK,?_⟩⟩;have hB:=boxed_noncellsB A (grownBy_putObj' _ D (.deferred none)) (fun r e=>by cases e;exact ⟨_,hK,rfl⟩);have cB:=Boxed.cell hB;exact ⟨.int .i64 (x'.1:Nat),by simp [results, Try.results120,go_sem,cB],ri HG.symm,J.grown (grownBy_putObj' _ D _) (by have:=Boxed.lt A;omega) (fun k e=>by cases e;omega)⟩
end

end Go.Proofs.Ytkjmfaohdhiiaaa
