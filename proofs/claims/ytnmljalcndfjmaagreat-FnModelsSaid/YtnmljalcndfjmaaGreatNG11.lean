/- Several texts in one: WdImpl2, ConOkImpl, ImplTok3, ImplTok4, TokFin, ConTextFn. -/
import Derived.Test.YtnmljalcndfjmaaGreatNG10
import Derived.Test.YtnmljalcndfjmaaGreatNG9
import Derived.Test.YtnmljalcndfjmaaGreatNG6
import Derived.Test.YtnmljalcndfjmaaGreatNG5
import Derived.WalkMore
import Derived.Test.YtnmljalcndfjmaaGreatNG2
import Derived.Test.YtnmljalcndfjmaaGreatNG7
import Derived.Test.YtnmljalcndfjmaaGreatNG1
namespace Go.Proofs.YtnmljalcndfjmaaGreat

section
open Go.RowKit
theorem flagAt_any (a:Option Addr) (n y pb:Nat) (m:Int) (w:World) (hp:w.cell? ⟨pb,0,none⟩=some (.int .i64 m)) :
    Calls Tryz.prog 124 #[.slice a n y,.pointer (some ⟨pb,0,none⟩)] w fun e w'=>e=.returned (.bool ((n:Int) != m))∧w'=w:=by
 go_enter Tryz.func124, Tryz.ntmps124;go_wp2_with fail;go_ret;exact ⟨rfl,rfl⟩
set_option maxRecDepth 100000 in
set_option maxHeartbeats 8000000 in
theorem indexFlags_any (a:Option Addr) (n y pb:Nat) (m:Int) (xs:List (List Bool)) (w:World) {lo hi:Nat} (h:RFF lo hi w a n y xs) (hp:w.cell? ⟨pb,0,none⟩=some (.int .i64 m)) :
    Calls Tryz.prog 154 #[.slice a n y,.func (.func 124) #[] #[.pointer (some ⟨pb,0,none⟩)]] w fun e w'=>∃ i:Int,e=.returned (.int .i64 i)∧decide (0≤i)=!(flagsB xs m)∧w'=w:=by
 have HR:Hid (RFF lo hi w a n y xs):=h;have HL:Hid (xs.length=n):=h.len;have HP:Hid (w.cell? ⟨pb,0,none⟩=some (.int .i64 m)):=hp;have hf:=h.fits;clear h hp;go_enter Tryz.func154, Tryz.ntmps154;go_upto_region 2 with fail;go_loopw [8] (fun i wr=>∃ k:Nat,k≤n∧i=.int .i64 k∧(List.range k).all (fun i=>decide (((xs.getD i []).length:Int)=m))=true∧wr=w) (fun i _=>n - (intOf i).toNat)
 case atStart=>exact ⟨0,Nat.zero_le _,rfl,by simp,rfl⟩
 case round =>
  obtain ⟨k,hk,rfl,D,rfl⟩:=hrel;have E:Hid ((List.range k).all (fun i=>decide (((xs.getD i []).length:Int)=m))=true):=D;clear D;by_cases hlt:k<n
  · rcases HR.out.cells with hz | ⟨b,off,e1,_,_,hc⟩
    · omega
    subst e1;obtain ⟨v,c0,ea,en,ec,rfl,hr⟩:=hc k hlt;have J:Hid ((xs.getD k []).length=en):=hr.len;have T:(k:Int)<(n:Int):=by omega
    clear hc hr;go_wp2_with fail;refine (flagAt_any ea en ec pb m _ HP.out).mono ?_;rintro e w5 ⟨rfl,A⟩;rw [A];clear A;by_cases hq:(en:Int)=m
    · have hb:((en:Int) != m)=false:=by simp;omega
      have HS:Hid ((List.range (k+1)).all (fun i=>decide (((xs.getD i []).length:Int)=m))=true):=by unfold Hid;rw [range_all_succ,E.out,J.out,decide_eq_true hq];rfl
      clear hq;rw [hb];go_wp2_with fail;go_roundw
      case rel=>exact ⟨k+1,by omega,by go_num,HS.out,by first | rfl | trivial⟩
      case measure=>simp [intOf];omega
    have hb:((en:Int) != m)=true:=by simp;omega
    have HE:Hid (flagsB xs m=false):=range_all_false (by rw [HL.out];exact hlt) (by rw [J.out];exact decide_eq_false hq);clear hq;rw [hb];go_wp2_with fail;go_ret;exact ⟨k,rfl,by rw [HE.out];simp,rfl⟩
  have HF:Hid (flagsB xs m=true):=by rw [Hid,flagsB,HL.out,show n=k by omega];exact E.out
  have U:decide ((k:Int)<(n:Int))=false:=by simp;omega
  go_wp2_with fail;go_ret;exact ⟨-1,rfl,by rw [HF.out];simp,rfl⟩
set_option maxRecDepth 100000 in
theorem hasFlags_any (a:Option Addr) (n y pb:Nat) (m:Int) (xs:List (List Bool)) (w:World) {lo hi:Nat} (h:RFF lo hi w a n y xs) (hp:w.cell? ⟨pb,0,none⟩=some (.int .i64 m)) :
    Calls Tryz.prog 123 #[.slice a n y,.func (.func 124) #[] #[.pointer (some ⟨pb,0,none⟩)]] w fun e w'=>e=.returned (.bool (!(flagsB xs m)))∧w'=w:=by
 have HR:Hid (RFF lo hi w a n y xs):=h;have HP:Hid (w.cell? ⟨pb,0,none⟩=some (.int .i64 m)):=hp;clear h hp;go_enter Tryz.func123, Tryz.ntmps123;go_wp2_with fail;refine (indexFlags_any a n y pb m xs w HR.out HP.out).mono ?_;rintro e w5 ⟨i,rfl,H,A⟩;rw [A];have HI:Hid (decide (0≤i)=!(flagsB xs m)):=H;clear H A;by_cases hi0:0≤i
 · go_wp2_with fail;go_ret;exact ⟨rb (by rw [← HI.out];simp [hi0]),rfl⟩
 go_wp2_with fail;go_ret;exact ⟨rb (by rw [← HI.out]),rfl⟩
set_option maxRecDepth 100000 in
set_option maxHeartbeats 4000000 in
theorem flagsFit_any (a:Option Addr) (n y q:Nat) (m:Int) (xs:List (List Bool)) (w:World) {lo hi:Nat} (h:RFF lo hi w a n y xs) (O:hi≤w.heap.size) :
    Calls Tryz.prog 69 #[.slice a n y,.int .i64 q,.int .i64 m] w fun e w'=>e=.returned (.bool (decide (n=q) && flagsB xs m))∧Below w.heap.size w w':=by
 obtain ⟨W0,F⟩:∃ W0,W0=w.alloc (.cells #[.int .i64 m] 3):=⟨_,rfl⟩;have I:Hid (W0=w.alloc (.cells #[.int .i64 m] 3)):=F;have G:Below w.heap.size w W0:=by rw [F];exact (Below.refl _ _).alloc (Nat.le_refl _) _
 have N:Hid (Below w.heap.size w W0):=G
 have HP:Hid (W0.cell? ⟨w.heap.size,0,none⟩=some (.int .i64 m)):=by
  unfold Hid;rw [F];have:=World.alloc_heap_new w (.cells #[.int .i64 m] 3);unfold World.cell?;simp only [this];rfl
 have HR:Hid (RFF lo hi W0 a n y xs):=h.below G O;have hf:=h.fits;clear h G F;by_cases hq:n=q
 · have HQ:Hid (decide (n=q)=true):=decide_eq_true hq;have hd:((n:Int) == (q:Int))=true:=by simp;omega
   have R:decide (n=q)=true:=decide_eq_true hq;clear hq;go_enter Tryz.func69, Tryz.ntmps69;go_upto_region 1 with fail;rw [← I.out];go_wp2_with (go_at_call 123;refine (hasFlags_any a n y w.heap.size m xs W0 HR.out HP.out).mono ?_;rintro e w5 ⟨rfl,A⟩;rw [A];clear A);go_ret;exact ⟨rb (by rw [HQ.out];simp),N.out⟩
 have HQ:Hid (decide (n=q)=false):=decide_eq_false hq;have hd:((n:Int) == (q:Int))=false:=by simp;omega
 have R:decide (n=q)=false:=decide_eq_false hq;clear hq;go_enter Tryz.func69, Tryz.ntmps69;go_upto_region 1 with fail;rw [← I.out];go_wp2_with fail;go_ret;exact ⟨rb (by rw [HQ.out];simp),N.out⟩
end

section
open Go.RowKit Go.Shelf
attribute [local go_sem] Oper.semAt_some
theorem boxed_noncells {W W':World} {B t:Nat} {v:Value} {row:Option Nat} (h:Boxed W B t v) (hg:W.grownBy W' row)
    (hr:∀ r,row=some r→∃ o:Obj,W.heap[r]?=some o∧o.isCells=false):Boxed W' B t v :=
 h.kept hg (fun e=>by
  obtain ⟨o,ho,hc⟩:=hr B e.symm
  rw [show W.heap[B]?=_ from h] at ho;cases ho;cases hc)
theorem boxC_noncells {W W':World} {B:Nat} {v0 v1 v2 v3:Value} {row:Option Nat} (h:BoxC W B v0 v1 v2 v3) (hg:W.grownBy W' row)
    (hr:∀ r,row=some r→∃ o:Obj,W.heap[r]?=some o∧o.isCells=false):BoxC W' B v0 v1 v2 v3 :=
 (hg.block B h.lt (fun e=>by
  obtain ⟨o,ho,hc⟩:=hr B e.symm
  rw [show W.heap[B]?=_ from h] at ho;cases ho;cases hc)).trans h
theorem boxed_setOther {W:World} {B t:Nat} {v:Value} (h:Boxed W B t v) {B':Nat} (aj:B≠B') (x:Value):Boxed (W.setCell ⟨B',0,none⟩ x) B t v :=
 (Below.heap_setCell W ⟨B',0,none⟩ x B aj).trans h
theorem boxed_below {W W':World} {B t:Nat} {v:Value} (h:Boxed W B t v) {n:Nat} (hb:Below n W W') (hn:B<n):Boxed W' B t v:=(hb.block B hn).trans h
theorem keepsOthers_below {W W':World} (h:Below W.heap.size W W'):KeepsOthers W W':=⟨h.size,fun k _ hk _=>(h.block k (Array.getElem?_eq_some_iff.1 hk).1).trans hk⟩
theorem KpC.set {B n1:Nat} (W:World) (b:Nat) (v:Value) (h1:B≤b) (h2:b<n1):KpC B n1 W (W.setCell ⟨b,0,none⟩ v) :=
 ⟨(Below.refl _ _).setCell (p:=⟨b,0,none⟩) h1 _,fun x _ hx h _=>(Below.heap_setCell W ⟨b,0,none⟩ v x (by show x≠b;omega)).trans h⟩
theorem all_okOne_snoc {lo hi:Nat} {w0:World} (q:List (Item lo hi w0)) (x:Item lo hi w0):((q++[x]).map Item.m).all okOne=((q.map Item.m).all okOne && okOne x.m):=by simp
theorem conOk_of_all {lo hi:Nat} {w0:World} {c:CN} {ys:List (Item lo hi w0)} (h:ys.map Item.m=parts c 1) (hf:ys.length≤16) (hg:(ys.map Item.m).all okOne=true):conOk c=true:=by
 unfold conOk;rw [← h,hg,List.length_map];simp [hf]
theorem conOk_of_part {lo hi:Nat} {w0:World} {c:CN} {q:List (Item lo hi w0)} (h:q.map Item.m <+: parts c 1) (hb:16<q.length∨(q.map Item.m).all okOne=false):conOk c=false:=by
 obtain ⟨t,ht⟩:=h;unfold conOk;rw [← ht,List.length_append,List.length_map,List.all_append];rcases hb with hb | hb
 · rw [show decide (q.length+t.length≤16)=false from by simp;omega];rfl
 rw [hb];simp
structure InvO {lo hi:Nat} {w0:World} (s n1:Nat) (w:World) (q:List (Item lo hi w0)) (W:World):Prop where
 res:Boxed W (s+1) 4 (.bool false)
 cnt:Boxed W (s+1+1) 3 (.int .i64 (q.length:Nat))
 bel:Below s w W
 few:q.length≤16
 good:(q.map Item.m).all okOne=true
 size:n1≤W.heap.size
structure InvOx {lo hi:Nat} {w0:World} (s:Nat) (w:World) (c:Code) (q:List (Item lo hi w0)) (W:World):Prop where
 code:c=.ret
 res:Boxed W (s+1) 4 (.bool false)
 bel:Below s w W
 bad:16<q.length∨(q.map Item.m).all okOne=false
theorem InvO.own {lo hi:Nat} {w0:World} {s n1:Nat} {w:World} {B:Nat} (hB:s≤B):OwnFrom B (InvO (lo:=lo) (hi:=hi) (w0:=w0) s n1 w):=by
 rintro q W W' row ⟨h1,h2,h3,h4,h5,h6⟩ hg hr;have:s≤W.heap.size:=by have:=Boxed.lt h1;omega
 exact ⟨boxed_noncells h1 hg fun r e=>(hr r e).2,boxed_noncells h2 hg fun r e=>(hr r e).2,h3.grown hg this fun k e=>by have:=(hr k e).1;omega,h4,h5,Nat.le_trans h6 hg.size⟩
theorem InvOx.own {lo hi:Nat} {w0:World} {s:Nat} {w:World} {B:Nat} (hB:s≤B) (c:Code):OwnFrom B (InvOx (lo:=lo) (hi:=hi) (w0:=w0) s w c):=by
 rintro q W W' row ⟨h0,h1,h3,h4⟩ hg hr;have:s≤W.heap.size:=by have:=Boxed.lt h1;omega
 exact ⟨h0,boxed_noncells h1 hg fun r e=>(hr r e).2,h3.grown hg this fun k e=>by have:=(hr k e).1;omega,h4⟩
def AxO {lo hi:Nat} {w0:World} (n1:Nat) (f:Value→Value→Value→Array Value) (x:Item lo hi w0) (a':Act) (W:World):Prop :=
 ∃ (Bx:Nat) (k:Int) (na:Option Addr) (nn nc:Nat) (ra:Option Addr) (rn rc:Nat) (ka:Option Addr) (kn kc:Nat),n1≤Bx∧x.v=.agg #[.int .i64 k,.slice na nn nc,.slice ra rn rc,.slice ka kn kc]∧BoxC W Bx (.int .i64 k) (.slice na nn nc) (.slice ra rn rc) (.slice ka kn kc) ∧
  a'={ tmps:=f (.int .i64 x.deep) (.agg #[.int .i64 k,.slice na nn nc,.slice ra rn rc,.slice ka kn kc]) (.pointer (some ⟨Bx,0,none⟩)),defers:=[] }
theorem AxO.own {lo hi:Nat} {w0:World} {n1 B:Nat} {f:Value→Value→Value→Array Value} (x:Item lo hi w0) (a':Act):OwnFrom B (fun (_:Unit) W=>AxO n1 f x a' W):=by
 rintro _ W W' row ⟨Bx,k,na,nn,nc,ra,rn,rc,ka,kn,kc,h1,h2,h3,h4⟩ hg hr;exact ⟨Bx,k,na,nn,nc,ra,rn,rc,ka,kn,kc,h1,h2,boxC_noncells h3 hg fun r e=>(hr r e).2,h4⟩
set_option maxRecDepth 100000 in
set_option maxHeartbeats 2000000 in
theorem implConOk_any {d:Nat} {v:Value} {c:CN} {w:World} {lo hi:Nat} (h:RdC lo hi w d v c) (ad:hi≤w.heap.size) (aC:c.bulk≤1048576) :
    Calls Tryz.prog 32 #[v] w fun e w'=>e=.returned (.bool (conOk c))∧Below w.heap.size w w':=by
 have ao:Hid (RdC lo hi w d v c):=h
 obtain ⟨k,na,nn,nc,ra,rn,rc,ka,kn,kc,rfl⟩:∃ k na nn nc ra rn rc ka kn kc,v=.agg #[.int .i64 k,.slice na nn nc,.slice ra rn rc,.slice ka kn kc]:=by
  cases d with
  | zero=>exact h.elim
  | succ d =>
   obtain ⟨na,nn,nc,ra,rn,rc,ka,kn,kc,hv,_⟩:=h;exact ⟨_,na,nn,nc,ra,rn,rc,ka,kn,kc,hv⟩
 clear h;refine (callsIn_wide (n:=6)).1 ?_;refine callsIn_of_wp_marks Tryz.func32 rfl trivial ?_ rfl;simp only [Tryz.ntmps32,List.size_toArray,List.length_cons,List.length_nil,Nat.reduceAdd,Nat.reduceSub,Array.replicate_succ,Array.replicate_zero,List.push_toArray,List.append_toArray,List.nil_append,List.cons_append]
 gi_wp2_with (first | (refine ⟨trivial,?_⟩;gi_at_call 77;refine (conTree_in _ _ _ _ _ _ _ _ _ _ _ _).mono ?_;rintro e w' ⟨rfl,rfl⟩) | (refine ⟨trivial,?_⟩;gi_at_call 78;refine (all_in _ _ _ _ _ _ _ _ _ _ _ _).mono ?_;rintro e w' ⟨rfl,rfl⟩))
 obtain ⟨W0,Y⟩:∃ W0,W0=((((((w.alloc (.cells #[.int .i64 k,.slice na nn nc,.slice ra rn rc,.slice ka kn kc] 30)).alloc (.cells #[.bool false] 4)).alloc (.cells #[.int .i64 0] 3)).alloc (.cells #[.int .i64 k,.slice na nn nc,.slice ra rn rc,.slice ka kn kc] 30)).alloc (.cells #[.int .i64 k,.slice na nn nc,.slice ra rn rc,.slice ka kn kc,.func (.func 126) #[] #[]] 114)).alloc (.cells #[.int .i64 k,.slice na nn nc,.slice ra rn rc,.slice ka kn kc,.func (.func 126) #[] #[]] 114)):=⟨_,rfl⟩;have az:W0.heap.size=w.heap.size+1+1+1+1+1+1:=by rw [Y];simp
 have ae:Below w.heap.size w W0:=by rw [Y];exact ((((((Below.refl _ w).alloc (Nat.le_refl _) _).alloc (by simp) _).alloc (by simp;omega) _).alloc (by simp;omega) _).alloc (by simp;omega) _).alloc (by simp;omega) _
 have al:Boxed W0 (w.heap.size+1) 4 (.bool false):=by
  rw [Y];have:=Boxed.new (w.alloc (.cells #[.int .i64 k,.slice na nn nc,.slice ra rn rc,.slice ka kn kc] 30)) 4 (.bool false);rw [World.size_alloc] at this;exact ((((this.alloc _).alloc _).alloc _).alloc _)
 have ak:Boxed W0 (w.heap.size+1+1) 3 (.int .i64 0):=by
  rw [Y];have:=Boxed.new ((w.alloc (.cells #[.int .i64 k,.slice na nn nc,.slice ra rn rc,.slice ka kn kc] 30)).alloc (.cells #[.bool false] 4)) 3 (.int .i64 0);rw [World.size_alloc,World.size_alloc] at this;exact (((this.alloc _).alloc _).alloc _)
 have am:BoxT W0 (w.heap.size+1+1+1+1+1) k na nn nc ra rn rc ka kn kc:=by
  rw [Y];have:=World.alloc_heap_new (((((w.alloc (.cells #[.int .i64 k,.slice na nn nc,.slice ra rn rc,.slice ka kn kc] 30)).alloc (.cells #[.bool false] 4)).alloc (.cells #[.int .i64 0] 3)).alloc (.cells #[.int .i64 k,.slice na nn nc,.slice ra rn rc,.slice ka kn kc] 30)).alloc (.cells #[.int .i64 k,.slice na nn nc,.slice ra rn rc,.slice ka kn kc,.func (.func 126) #[] #[]] 114)) (.cells #[.int .i64 k,.slice na nn nc,.slice ra rn rc,.slice ka kn kc,.func (.func 126) #[] #[]] 114);simp only [World.size_alloc] at this;exact this
 rw [← Y];clear Y
 refine wpIn_rangeFunc_ownH rfl (by omega) (gf:=127) (lb:=#[.pointer (some ⟨w.heap.size+1+1+1+1+1,0,none⟩)]) rfl trivial (enters_of Tryz.func127 (by kernel_rfl) rfl)
  (parts_stops (lo:=lo) (hi:=hi) (B:=w.heap.size) (n1:=w.heap.size+1+1+1+1+1+1) 5 (w.heap.size+1+1+1+1+1) ad (by omega) c ao.out (by omega) ae (by omega) am) KpC.trans
  (fun W l o o' hl hW hc _=>KpC.putObj W l o o' (by omega) hW hc) (Below.refl _ _) (fun _=>rfl)
  (InvO w.heap.size (w.heap.size+1+1+1+1+1+1) w) (InvOx w.heap.size w) (InvO.own (by omega)) (InvOx.own (by omega))
  ⟨al,ak,ae,by simp,rfl,by omega⟩
  (AxO (w.heap.size+1+1+1+1+1+1) (fun dv pv bx=>#[.agg #[.int .i64 k,.slice na nn nc,.slice ra rn rc,.slice ka kn kc],.pointer (some ⟨w.heap.size,0,none⟩),.pointer (some ⟨w.heap.size+1,0,none⟩),.pointer (some ⟨w.heap.size+1+1,0,none⟩),dv,bx,.agg #[.int .i64 k,.slice na nn nc,.slice ra rn rc,.slice ka kn kc],.agg #[.int .i64 k,.slice na nn nc,.slice ra rn rc,.slice ka kn kc,.func (.func 126) #[] #[]],.func (.func 127) #[] #[.pointer (some ⟨w.heap.size+1+1+1+1+1,0,none⟩)],dv,pv,undef,undef,undef,undef,undef,undef,undef,undef,undef,undef,undef,undef,undef])) AxO.own ?assign ?body ?done ?stop
 case assign =>
  rintro l q ⟨deep,v,cx,dx,rd⟩ W K hi hK
  obtain ⟨xk,O,J,N,I,G,H,U,R,T,rfl⟩:∃ k na nn nc ra rn rc ka kn kc,v=.agg #[.int .i64 k,.slice na nn nc,.slice ra rn rc,.slice ka kn kc]:=by
   cases dx with
   | zero=>exact rd.elim
   | succ d =>
    obtain ⟨na,nn,nc,ra,rn,rc,ka,kn,kc,hv,_⟩:=rd;exact ⟨_,na,nn,nc,ra,rn,rc,ka,kn,kc,hv⟩
  unfold encI
  gi_wp2
  have aB:=Boxed.lt hi.cnt;have hB:Below W.heap.size W (W.alloc (.cells #[.int .i64 xk,.slice O J N,.slice I G H,.slice U R T] 30)):=(Below.refl _ _).alloc (Nat.le_refl _) _
  exact hK _ _ ((keepsOthers_below hB).from _) (KpC.of_below hB (by omega)) ⟨hi.res.alloc _,hi.cnt.alloc _,hi.bel.alloc (by omega) _,hi.few,hi.good,Nat.le_trans hi.size hB.size⟩
   ⟨W.heap.size,xk,O,J,N,I,G,H,U,R,T,hi.size,rfl,BoxC.new W _ _ _ _,rfl⟩
 case body =>
  rintro l q ⟨deep,v,cx,dx,rd⟩ a' W hl ⟨r,hr⟩ hI ⟨Bx,xk,O,J,N,I,G,H,U,R,T,aD,hv,a0,rfl⟩ a8;dsimp only at hv;subst hv;have HI:Hid (InvO w.heap.size (w.heap.size+1+1+1+1+1+1) w q W):=hI;have cC:=Boxed.cell hI.cnt;have fC:=Boxed.frozen hI.cnt;have cR:=Boxed.cell hI.res;have fR:=Boxed.frozen hI.res;have au:=hI.few;have aA:=hI.size;have av:Hid (BoxC W Bx (.int .i64 xk) (.slice O J N) (.slice I G H) (.slice U R T)):=a0;obtain ⟨q0,q1,q2,q3⟩:=a0.cells;have an:Hid (RdC lo hi w dx (.agg #[.int .i64 xk,.slice O J N,.slice I G H,.slice U R T]) cx):=rd;have a1:Hid (((q++[(⟨deep,.agg #[.int .i64 xk,.slice O J N,.slice I G H,.slice U R T],cx,dx,rd⟩:Item lo hi w)]).map Item.m).all okOne=(decide (deep≤6) && shapeB cx)):=by unfold Hid;rw [all_okOne_snoc,HI.out.good];rfl
  have ar:Bx≠w.heap.size+1+1:=by omega
  have aq:w.heap.size+1+1≠Bx:=by omega
  have ay:w.heap.size+1<W.heap.size:=by omega
  have ax:w.heap.size+1+1<W.heap.size:=by omega
  have ac:(q++[(⟨deep,.agg #[.int .i64 xk,.slice O J N,.slice I G H,.slice U R T],cx,dx,rd⟩:Item lo hi w)]).length=q.length+1:=by simp
  have a5:Hid ((q++[(⟨deep,.agg #[.int .i64 xk,.slice O J N,.slice I G H,.slice U R T],cx,dx,rd⟩:Item lo hi w)]).length=q.length+1):=ac;have ai:Hid (KpC w.heap.size (w.heap.size+1+1+1+1+1+1) W (W.setCell ⟨w.heap.size+1+1,0,none⟩ (.int .i64 ((q.length:Int)+1)))):=KpC.set W _ _ (by omega) (by omega);have V:Hid (Below w.heap.size w (W.setCell ⟨w.heap.size+1+1,0,none⟩ (.int .i64 ((q.length:Int)+1)))):=HI.out.bel.trans ai.out.1;have ah:Hid (RdC lo hi (W.setCell ⟨w.heap.size+1+1,0,none⟩ (.int .i64 ((q.length:Int)+1))) dx (.agg #[.int .i64 xk,.slice O J N,.slice I G H,.slice U R T]) cx):=an.out.below V.out ad;have y:Hid (Boxed (W.setCell ⟨w.heap.size+1+1,0,none⟩ (.int .i64 ((q.length:Int)+1))) (w.heap.size+1) 4 (.bool false)):=boxed_setOther HI.out.res (by omega) _;have X:Hid (Boxed (W.setCell ⟨w.heap.size+1+1,0,none⟩ (.int .i64 ((q.length:Int)+1))) (w.heap.size+1+1) 3 (.int .i64 ((q.length:Int)+1))):=Boxed.set _ HI.out.cnt;clear hI a0 hr a8 ac;by_cases h16:q.length=16
  · rw [h16] at y V
    gi_wp2
    refine ⟨trivial,?_⟩
    gi_wp2
    exact ⟨((KeepsOthers.setCell _ _ _).trans (KeepsOthers.setCell _ _ _)).from _,rfl,Boxed.set _ y.out,V.out.setCell (p:=⟨w.heap.size+1,0,none⟩) (by show w.heap.size≤w.heap.size+1;omega) _,.inl (by rw [a5.out];omega)⟩
  have d1:decide ((16:Int)<(q.length:Nat)+1)=false:=by simp;omega
  by_cases h6:6<deep
  · have d2:(6:Int)<(deep:Int):=by omega
    have HO:Hid ((decide (deep≤6) && shapeB cx)=false):=by unfold Hid;rw [show decide (deep≤6)=false from by simp;omega];rfl
    gi_wp2
    refine ⟨trivial,?_⟩
    gi_wp2
    exact ⟨((KeepsOthers.setCell _ _ _).trans (KeepsOthers.setCell _ _ _)).from _,rfl,Boxed.set _ y.out,V.out.setCell (p:=⟨w.heap.size+1,0,none⟩) (by show w.heap.size≤w.heap.size+1;omega) _,.inr (a1.out.trans HO.out)⟩
  have d2:decide ((6:Int)<(deep:Int))=false:=by simp;omega
  have d3:decide (deep≤6)=true:=by simp;omega
  have ab:hi≤(W.setCell ⟨w.heap.size+1+1,0,none⟩ (.int .i64 ((q.length:Int)+1))).heap.size:=by simp;omega
  have ag:Hid (hi≤(W.setCell ⟨w.heap.size+1+1,0,none⟩ (.int .i64 ((q.length:Int)+1))).heap.size):=ab;clear ab;cases hS:shapeB cx
  · have HO:Hid ((decide (deep≤6) && shapeB cx)=false):=by unfold Hid;rw [hS,d3];rfl
    gi_wp2
    refine ⟨trivial,?_⟩;refine (CallsIn.inRound l (callsIn_wide.2 (shapeOk_any ah.out ag.out))).mono ?_;rintro e w1 ⟨rfl,E⟩;rw [hS];have A:=boxed_below y.out E (Boxed.lt y.out);have c2:=Boxed.cell A;have f2:=Boxed.frozen A;have a6:Hid (KeepsOthers (W.setCell ⟨w.heap.size+1+1,0,none⟩ (.int .i64 ((q.length:Int)+1))) w1):=keepsOthers_below E;have a2:Hid (Below w.heap.size w w1):=V.out.trans (E.mono V.out.size);have F:Hid (Boxed w1 (w.heap.size+1) 4 (.bool false)):=A;clear E A
    gi_wp2
    exact ⟨(((KeepsOthers.setCell _ _ _).trans a6.out).trans (KeepsOthers.setCell _ _ _)).from _,rfl,Boxed.set _ F.out,a2.out.setCell (p:=⟨w.heap.size+1,0,none⟩) (by show w.heap.size≤w.heap.size+1;omega) _,.inr (a1.out.trans HO.out)⟩
  have HO:Hid ((decide (deep≤6) && shapeB cx)=true):=by unfold Hid;rw [hS,d3];rfl
  gi_wp2
  refine ⟨trivial,?_⟩;refine (CallsIn.inRound l (callsIn_wide.2 (shapeOk_any ah.out ag.out))).mono ?_;rintro e w1 ⟨rfl,E⟩;rw [hS];have a6:Hid (KeepsOthers (W.setCell ⟨w.heap.size+1+1,0,none⟩ (.int .i64 ((q.length:Int)+1))) w1):=keepsOthers_below E;have a2:Hid (Below w.heap.size w w1):=V.out.trans (E.mono V.out.size);have a3:Hid (KpC w.heap.size (w.heap.size+1+1+1+1+1+1) W w1):=ai.out.trans (KpC.of_below E V.out.size);have F:Hid (Boxed w1 (w.heap.size+1) 4 (.bool false)):=boxed_below y.out E (Boxed.lt y.out);have a4:Hid (Boxed w1 (w.heap.size+1+1) 3 (.int .i64 ((q.length:Int)+1))):=boxed_below X.out E (Boxed.lt X.out);have ap:W.heap.size≤w1.heap.size:=a3.out.1.size;clear E
  gi_wp2
  exact ⟨((KeepsOthers.setCell _ _ _).trans a6.out).from _,a3.out,F.out,by rw [a5.out];exact a4.out,a2.out,by rw [a5.out];omega,a1.out.trans HO.out,by omega⟩
 case done =>
  rintro D ys W hD hS hI hK;have cR:=Boxed.cell hI.res;have fR:=Boxed.frozen hI.res;have hE:conOk c=true:=conOk_of_all hS hI.few hI.good
  gi_wp2
  have af:(W.setCell ⟨w.heap.size+1,0,none⟩ (.bool true)).heap[D]?=some (.deferred (some [])):=(KeepsOthers.setCell _ _ _).same D _ hK rfl;refine ⟨by simp,.inl ⟨_,_,rfl,run_takeDeferred af,?_⟩⟩;have hB:=boxed_noncells (Boxed.set (.bool true) hI.res) (grownBy_putObj' _ D (.deferred none)) (fun r e=>by cases e;exact ⟨_,af,rfl⟩);have cB:=Boxed.cell hB;exact ⟨.bool true,by simp [results, Tryz.results32,go_sem,cB],rb hE.symm,(hI.bel.setCell (p:=⟨w.heap.size+1,0,none⟩) (by show w.heap.size≤w.heap.size+1;omega) _).grown (grownBy_putObj' _ D _) (by have:=Boxed.lt hI.res;simp;omega) (fun k e=>by cases e;omega)⟩
 case stop =>
  rintro D cd q W hD a7 hI hK;obtain ⟨rfl,Z,a9,aa⟩:=hI;have cR:=Boxed.cell Z;have hE:conOk c=false:=conOk_of_part a7 aa
  gi_wp2
  refine ⟨by simp,.inl ⟨_,_,rfl,run_takeDeferred hK,?_⟩⟩;have hB:=boxed_noncells Z (grownBy_putObj' _ D (.deferred none)) (fun r e=>by cases e;exact ⟨_,hK,rfl⟩);have cB:=Boxed.cell hB;exact ⟨.bool false,by simp [results, Tryz.results32,go_sem,cB],rb hE.symm,a9.grown (grownBy_putObj' _ D _) (by have:=Boxed.lt Z;omega) (fun k e=>by cases e;omega)⟩
end

section
open Go.RowKit Go.Shelf
attribute [local go_sem] Oper.semAt_some
def Good (zs:List Int) (xs:List (PosOf zs)):Prop:=∀ x∈xs,kindOf (piece zs x.1)≠0
theorem OwnT.of_cells {base:Nat} {W W':World} {v:Value} {ts:List Tok} {gs:List (Nat × Nat)} (h:OwnT base W v ts gs)
    (hk:∀ (g:Nat) (c:Array Value) (t:Nat),(t=176∨t=5)→W.heap[g]?=some (Obj.cells c t (0,0))→W'.heap[g]?=some (Obj.cells c t (0,0))):OwnT base W' v ts gs:=by
 obtain ⟨h1,h2,h3,h4,h5⟩:=h;refine ⟨h1,⟨h2.1,?_⟩,fun i hi ht=>?_,h4,h5⟩
 · rcases h2.2 with h2 | ⟨g,q,cur,hv,hg,hh,r⟩
   · exact .inl h2
   exact .inr ⟨g,q,cur,hv,hg,hk g _ _ (.inl rfl) hh,r⟩
 obtain ⟨a,⟨c,hc,r⟩,b⟩:=h3 i hi ht;exact ⟨a,⟨c,hk _ _ _ (.inr rfl) hc,r⟩,b⟩
theorem OwnT.noncells {base:Nat} {W W':World} {v:Value} {ts:List Tok} {gs:List (Nat × Nat)} {row:Option Nat} (h:OwnT base W v ts gs) (hg:W.grownBy W' row)
    (hr:∀ r,row=some r→∃ o:Obj,W.heap[r]?=some o∧o.isCells=false):OwnT base W' v ts gs :=
 h.of_cells fun g c t _ hh=>(hg.block g (Array.getElem?_eq_some_iff.1 hh).1 (fun e=>by
  obtain ⟨o,ho,hc⟩:=hr g e.symm
  rw [hh] at ho;cases ho;cases hc)).trans hh
structure InvT (s:Nat) (w W:World) (zs:List Int) (sv v:Value) (xs:List (PosOf zs)) (gs:List (Nat × Nat)):Prop where
 list:Boxed W s 161 v
 bad:Boxed W (s+1) 3 (.int .i64 (-1))
 text:Boxed W (s+1+1) 22 sv
 own:OwnT s W v (xs.map (fun x=>tokAt zs x.1)) gs
 good:Good zs xs
 bel:Below s w W
theorem InvT.noncells {s:Nat} {w W W':World} {zs:List Int} {sv v:Value} {xs:List (PosOf zs)} {gs:List (Nat × Nat)} {row:Option Nat} (h:InvT s w W zs sv v xs gs) (hs:s≤W.heap.size) (hg:W.grownBy W' row)
    (hr:∀ r,row=some r→s≤r∧∃ o:Obj,W.heap[r]?=some o∧o.isCells=false):InvT s w W' zs sv v xs gs :=
 ⟨boxed_noncells h.list hg fun r e=>(hr r e).2,boxed_noncells h.bad hg fun r e=>(hr r e).2,boxed_noncells h.text hg fun r e=>(hr r e).2,h.own.noncells hg fun r e=>(hr r e).2,h.good,h.bel.grown hg hs fun k e=>(hr k e).1⟩
end

section
open Go.RowKit Go.Shelf
attribute [local go_sem] Oper.semAt_some
def InvI (s:Nat) (w:World) (zs:List Int) (sv:Value) (q:List (PosOf zs)) (W:World):Prop:=∃ v gs,InvT s w W zs sv v q gs
def InvX (s:Nat) (w:World) (zs:List Int) (c:Code) (q:List (PosOf zs)) (W:World):Prop :=
 c=.exit 0∧Below s w W∧∃ pre' x,q=pre'++[x]∧Good zs pre'∧kindOf (piece zs x.1)=0∧Boxed W s 161 (.slice none 0 0)∧Boxed W (s+1) 3 (.int .i64 (x.1:Nat))
theorem InvI.own {s:Nat} {w:World} {zs:List Int} {sv:Value} {B:Nat} (hB:s≤B):OwnFrom B (InvI s w zs sv):=by
 rintro q W W' row ⟨v,gs,h⟩ hg hr;have:s≤W.heap.size:=by have:=Boxed.lt h.list;omega
 exact ⟨v,gs,h.noncells this hg fun r e=>⟨by have:=(hr r e).1;omega,(hr r e).2⟩⟩
theorem InvX.own {s:Nat} {w:World} {zs:List Int} {B:Nat} (hB:s≤B) (c:Code):OwnFrom B (InvX s w zs c):=by
 rintro q W W' row ⟨hc,hb,pre',x,h1,h2,h3,h4,h5⟩ hg hr;have:s≤W.heap.size:=by have:=Boxed.lt h4;omega
 exact ⟨hc,hb.grown hg this fun k e=>by have:=(hr k e).1;omega,pre',x,h1,h2,h3,boxed_noncells h4 hg fun r e=>(hr r e).2,boxed_noncells h5 hg fun r e=>(hr r e).2⟩
end

section
open Go.RowKit
theorem toksFrom_bound (zs:List Int):∀ (f i:Nat) (q:List Tok),i≤zs.length→q.length≤i→(∀ t∈q,t.text.length≤zs.length)→(toksFrom zs f i q).1.length≤zs.length∧∀ t∈(toksFrom zs f i q).1,t.text.length≤zs.length
 | 0,i,q,hi,hl,ht=>⟨by simp only [toksFrom];omega,ht⟩
 | f+1,i,q,hi,hl,ht=>by
  by_cases h:i<zs.length
  · cases hb:blankB (zs.getD i 0)
    · by_cases hk:kindOf (piece zs i)=0
      · rw [toksFrom_bad zs f i q h hb hk];exact ⟨by simp,fun t h=>by simp at h⟩
      rw [toksFrom_tok zs f i q h hb hk];refine toksFrom_bound zs f _ _ (pend_le zs i h) (by have:=pend_gt zs i;simp;omega) ?_;intro t h';rcases List.mem_append.1 h' with h' | h'
      · exact ht t h'
      simp at h';subst h';simp only [tokAt]
      split
      · rw [piece_length zs i h];have:=pend_le zs i h;omega
      simp
    rw [toksFrom_blank zs f i q h hb];exact toksFrom_bound zs f _ _ (by omega) (by omega) ht
  rw [toksFrom_stop zs _ i q (by omega)];exact ⟨by show q.length≤_;omega,ht⟩
theorem toks_bound (zs:List Int):(toks zs).1.length≤1500∧∀ i,((toks zs).1.getD i Tok.zero).text.length≤1500:=by
 have y:(toks zs).1.length≤1500∧∀ t∈(toks zs).1,t.text.length≤1500:=by
  unfold toks
  split
  · exact ⟨by simp,fun t h=>by simp at h⟩
  have:=toksFrom_bound zs (zs.length+1) 0 [] (by omega) (by simp) (fun t h=>by simp at h);exact ⟨by omega,fun t h=>by have:=this.2 t h;omega⟩
 refine ⟨y.1,fun i=>?_⟩;by_cases hi:i<(toks zs).1.length
 · have:=y.2 ((toks zs).1[i]) (List.getElem_mem hi);simpa [List.getD,hi] using this
 simp only [List.getD];rw [List.getElem?_eq_none (by omega)];simp [Tok.zero]
theorem HeadT.same {w w':World} {b off n lo hi:Nat} {tx:Nat→Nat × Nat × Nat} (h:HeadT w b off tx n) (hs:Same lo hi w w') (h1:n=0∨lo≤b) (h2:n=0∨b<hi):HeadT w' b off tx n:=by
 intro i A;obtain ⟨ta,tc,hc,r⟩:=h i A;exact ⟨ta,tc,(hs.cell (p:=⟨b,_,none⟩) (by show lo≤b;omega) (by show b<hi;omega)).trans hc,r⟩
end

section
open Go.RowKit
theorem Rd.mem {lo hi:Nat} {w:World} {a:Option Addr} {n q:Nat} {zs:List Int} (h:Rd lo hi w a n q zs):∀ x∈zs,0≤x∧x≤255:=by
 intro x hx;obtain ⟨j,hj,rfl⟩:=List.mem_iff_getElem.1 hx;have:=h.byte j
 rwa [List.getD,List.getElem?_eq_getElem hj] at this
end

end Go.Proofs.YtnmljalcndfjmaaGreat
