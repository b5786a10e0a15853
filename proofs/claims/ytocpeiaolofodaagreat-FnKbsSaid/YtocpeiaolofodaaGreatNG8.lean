/- Several texts in one: AxSpec2, ConTell, ConShape2. -/
import Derived.Test.YtocpeiaolofodaaGreatNG7
import Derived.Deep.RegionWith
import Derived.Test.YtocpeiaolofodaaGreatNG5
import Derived.Test.YtocpeiaolofodaaGreatNG4
namespace Go.Proofs.YtocpeiaolofodaaGreat

section
open Go.RowKit
set_option linter.unusedVariables false
theorem byP {P:Prop} (p:Prop) [Decidable p] (h1:p→P) (h0:¬ p→P):P:=if h:p then h1 h else h0 h
theorem byB {P:Prop} (b:Bool) (h0:b=false→P) (h1:b=true→P):P:=by cases h:b;exact h0 h;exact h1 h
theorem byN {P:Prop} (n:Nat) (h0:n=0→P) (h1:¬ n=0→(0:Int)<(n:Int)→P):P:=if h:n=0 then h0 h else h1 h (by omega)
theorem byL {P:Prop} (n:Nat) (b:Bool) (q:n=0→b=false) (h0:n=0→b=false→P) (h1:(0:Int)<(n:Int)→b=false→P) (h2:(0:Int)<(n:Int)→b=true→P):P:=by
 by_cases h:n=0
 · exact h0 h (q h)
 cases hb:b
 · exact h1 (by omega) hb
 exact h2 (by omega) hb
theorem bySix {P:Prop} {k:Int} (a:¬ k<0) (b:¬ 5<k) (h2:k=0∨k=1∨k=2→P) (h3:k=3→P) (h4:k=4→P) (h5:k=5→P):P:=by
 by_cases h:k≤2
 · exact h2 (by omega)
 by_cases e:k=3
 · exact h3 e
 by_cases e:k=4
 · exact h4 e
 exact h5 (by omega)
set_option maxRecDepth 100000 in
set_option maxHeartbeats 40000000 in
theorem specAxiomOk_any {dp:Nat} {c0 c1 c2 c3 d0 d1 d2 d3:Value} {ra:Option Addr} {rn rc:Nat} {sa:Option Addr} {sn sc:Nat} {aa:Option Addr} {an ac:Nat} {ba:Option Addr} {bn bc:Nat} {x:AX} {w:World} {lo hi:Nat} (h:RdA lo hi w dp c0 c1 c2 c3 d0 d1 d2 d3 ra rn rc sa sn sc aa an ac ba bn bc x) (V:hi≤w.heap.size) (k:Int) (hk:k=x.kind):Calls Tryz.prog 17 #[.agg #[.int .i64 k,c0,c1,c2,c3,d0,d1,d2,d3,.slice ra rn rc,.slice sa sn sc,.slice aa an ac,.slice ba bn bc]] w fun e w'=>e=.returned (.bool (axOk x))∧Below w.heap.size w w':=by
 obtain ⟨W0,H⟩:∃ W0,W0=w.alloc (.cells #[.int .i64 k,c0,c1,c2,c3,d0,d1,d2,d3,.slice ra rn rc,.slice sa sn sc,.slice aa an ac,.slice ba bn bc] 39):=⟨_,rfl⟩;have ah:Hid (W0=w.alloc (.cells #[.int .i64 k,c0,c1,c2,c3,d0,d1,d2,d3,.slice ra rn rc,.slice sa sn sc,.slice aa an ac,.slice ba bn bc] 39)):=H;have F:Below w.heap.size w W0:=by rw [H];exact (Below.refl _ _).alloc (Nat.le_refl _) _
 have ad:Hid (Below w.heap.size w W0):=F;have ag:w.heap.size<W0.heap.size:=by rw [H];simp
 have X:BoxA 39 W0 w.heap.size k c0 c1 c2 c3 d0 d1 d2 d3 (.slice ra rn rc) (.slice sa sn sc) (.slice aa an ac) (.slice ba bn bc):=by rw [H];exact BoxA.new _ w _ _ _ _ _ _ _ _ _ _ _ _ _
 have ai:Hid (∀ W,Below W0.heap.size W0 W→BoxA 39 W w.heap.size k c0 c1 c2 c3 d0 d1 d2 d3 (.slice ra rn rc) (.slice sa sn sc) (.slice aa an ac) (.slice ba bn bc)):=fun W hW=>X.below hW ag
 obtain ⟨z0,z1,z2,z3,z4,z5,z6,z7,z8,z9,a2,a1,a0⟩:=X.cells;have HR:Hid (∀ W,Below W0.heap.size W0 W→RdA lo hi W dp c0 c1 c2 c3 d0 d1 d2 d3 ra rn rc sa sn sc aa an ac ba bn bc x):=fun W hW=>(h.below F V).below hW (Nat.le_trans V F.size)
 have a9:hi≤W0.heap.size:=Nat.le_trans V F.size;have HV:Hid (Below W0.heap.size W0 W0):=Below.refl _ _;have a6:=h.r.len;have a5:=h.s.len;have a8:=h.a.len;have a7:=h.b.len;have j:∀ {zs:List Int} {n:Nat},zs.length=n→n=0→lowOk zs=false:=fun {zs} {n} hl hz=>by cases e:lowOk zs;rfl;have:=(longB_of_low e).1;omega
 have O:=j a6;have a3:=j a5;have T:=j a8;have a4:=j a7;have af:conOk x.c=false→zeroB x.c=false:=fun e=>by cases hz:zeroB x.c;rfl;rw [ok_of_zero hz] at e;exact e
 have ae:conOk x.d=false→zeroB x.d=false:=fun e=>by cases hz:zeroB x.d;rfl;rw [ok_of_zero hz] at e;exact e
 have U:=hk.symm;clear hk j h F H X;refine byP (k<0) (fun h0=>?_) (fun h0=>byP (5<k) (fun h5=>?_) (fun h5=>byB (conOk x.c) (fun hC=>?_) (fun hC=>byB (conOk x.d) (fun hD=>?_) (fun hD=>bySix h0 h5 (fun e3=>byN rn (fun hr=>byN sn (fun hs=>byN an (fun ha=>byN bn (fun hb=>?_) (fun hb N=>?_)) (fun ha G=>?_)) (fun hs J=>?_)) (fun hr E=>?_)) (fun e=>byB (zeroB x.d) (fun z=>?_) (fun z=>byB (zeroB x.c) (fun I=>?_) (fun I=>byL rn (lowOk x.r) O (fun hr A=>?_) (fun E A=>?_) (fun E A=>byL sn (lowOk x.s) a3 (fun hs Y=>?_) (fun J Y=>?_) (fun J Y=>byN an (fun ha=>byN bn (fun hb=>?_) (fun hb N=>?_)) (fun ha G=>?_)))))) (fun e=>byB (zeroB x.d) (fun z=>?_) (fun z=>byN rn (fun hr=>byN sn (fun hs=>byL an (lowOk x.a) T (fun ha D=>?_) (fun G D=>?_) (fun G D=>byN bn (fun hb=>?_) (fun hb N=>?_))) (fun hs J=>?_)) (fun hr E=>?_))) (fun e=>byB (zeroB x.d) (fun z=>?_) (fun z=>byB (zeroB x.c) (fun I=>?_) (fun I=>byL rn (lowOk x.r) O (fun hr A=>?_) (fun E A=>?_) (fun E A=>byN sn (fun hs=>byL an (lowOk x.a) T (fun ha D=>?_) (fun G D=>?_) (fun G D=>byL bn (lowOk x.b) a4 (fun hb Z=>?_) (fun N Z=>?_) (fun N Z=>?_))) (fun hs J=>?_)))))))))
 all_goals
  (try subst hr);(try subst hs);(try subst ha);(try subst hb);(try subst e)
  (first | (have HE:Hid (axOk x=true):=(by first | (unfold Hid axOk fitC fitL wantC wantD wantR wantS wantA wantB;rw [U];(first | (rcases e3 with rfl | rfl | rfl <;> (simp [*];done)) | (simp [*];done))) | fail)) | (have HE:Hid (axOk x=false):=(by first | (unfold Hid axOk fitC fitL wantC wantD wantR wantS wantA wantB;rw [U];(first | (rcases e3 with rfl | rfl | rfl <;> (simp [*];done)) | (simp [*];done) | (rw [decide_eq_false (by omega)];rfl))) | fail)))
  clear U a6 a5 a8 a7 O a3 T a4 af ae;(try (have aj:k≤2:=(by omega);have b3:(k == 3)=false:=(by simp;omega);have b4:(k == 4)=false:=(by simp;omega);have b5:(k == 5)=false:=(by simp;omega);clear e3));go_enter Tryz.func17, Tryz.ntmps17;go_upto_region 1 with fail;rw [← ah.out];go_wp2_with ((first | (go_at_call_of 41 c0;refine (specConOk_any (HR.out _ HV.out).c (Nat.le_trans a9 HV.out.size)).mono ?_) | (go_at_call_of 41 d0;refine (specConOk_any (HR.out _ HV.out).d (Nat.le_trans a9 HV.out.size)).mono ?_) | (go_at_call_of 42 d0;refine (l3zero_any (HR.out _ HV.out).d).mono ?_) | (go_at_call_of 42 c0;refine (l3zero_any (HR.out _ HV.out).c).mono ?_) | (go_at_call_of 43 ra;refine (specLowerOk_any ra rn rc x.r _ (lo:=lo) (hi:=hi) (HR.out _ HV.out).r).mono ?_) | (go_at_call_of 43 sa;refine (specLowerOk_any sa sn sc x.s _ (lo:=lo) (hi:=hi) (HR.out _ HV.out).s).mono ?_) | (go_at_call_of 43 aa;refine (specLowerOk_any aa an ac x.a _ (lo:=lo) (hi:=hi) (HR.out _ HV.out).a).mono ?_) | (go_at_call_of 43 ba;refine (specLowerOk_any ba bn bc x.b _ (lo:=lo) (hi:=hi) (HR.out _ HV.out).b).mono ?_));rintro e V' ⟨rfl,hb⟩;(first | rw [hC] | rw [hD] | rw [z] | rw [I] | rw [A] | rw [Y] | rw [D] | rw [Z]);have ab:Hid (Below W0.heap.size W0 V'):=(by first | exact HV.out.trans (hb.mono HV.out.size) | exact hb ▸ HV.out);clear hb HV z0 z1 z2 z3 z4 z5 z6 z7 z8 z9 a2 a1 a0;have HV:=ab;clear ab;obtain ⟨z0,z1,z2,z3,z4,z5,z6,z7,z8,z9,a2,a1,a0⟩:=(ai.out _ HV.out).cells);go_ret;exact ⟨rb HE.out.symm,ad.out.trans (HV.out.mono ad.out.size)⟩
end

section
open Go.RowKit Go.Shelf
attribute [local go_sem] Oper.semAt_some
theorem yieldAt_wide {m:Nat} (m':Nat) {P:Program} {l:Nat} {args:Array Value} {W:World} {R:Ending→World→Prop} (h:YieldAt Fence.wide m P l args W R):YieldAt Fence.wide m' P l args W R:=by
 obtain ⟨fn,tmps,assign,body,hy,hR⟩:=h;exact ⟨fn,tmps,assign,body,hy,⟨hR.1,fun c cs _=>hR.2 c cs (fun d h=>by cases h)⟩⟩
structure Item (lo hi:Nat) (w0:World) where
 deep:Nat
 v:Value
 c:CN
 d:Nat
 rd:RdC lo hi w0 d v c
def Item.m {lo hi:Nat} {w0:World} (x:Item lo hi w0):Nat × CN:=(x.deep,x.c)
def encI {lo hi:Nat} {w0:World} (x:Item lo hi w0):Array Value:=#[.int .i64 x.deep,x.v]
def KpC (B n1:Nat) (W W':World):Prop:=Below B W W'∧∀ (b:Nat) (o:Obj),n1≤b→W.heap[b]?=some o→o.isCells=true→W'.heap[b]?=some o
theorem KpC.refl (B n1:Nat) (W:World):KpC B n1 W W:=⟨Below.refl _ _,fun _ _ _ h _=>h⟩
theorem KpC.trans {B n1:Nat} {A C D:World} (h:KpC B n1 A C) (k:KpC B n1 C D):KpC B n1 A D:=⟨h.1.trans k.1,fun b o h1 h2 h3=>k.2 b o h1 (h.2 b o h1 h2 h3) h3⟩
theorem KpC.of_below {B n1:Nat} {W W':World} (h:Below W.heap.size W W') (hB:B≤W.heap.size):KpC B n1 W W':=⟨h.mono hB,fun b _ _ h2 _=>(h.block b (Array.getElem?_eq_some_iff.1 h2).1).trans h2⟩
theorem KpC.putObj {B n1:Nat} (W:World) (l:Nat) (o o':Obj) (hB:B≤l) (hl:W.heap[l]?=some o) (ho:o.isCells=false):KpC B n1 W (W.putObj l o') :=
 ⟨(Below.refl B W).grown (grownBy_putObj' W l o') (by have:=(Array.getElem?_eq_some_iff.1 hl).1;omega) (fun k e=>by cases e;exact hB),fun b o2 _ hb hc=>(World.putObj_heap_other (fun e=>by subst e;rw [hl] at hb;cases hb;rw [ho] at hc;cases hc)).trans hb⟩
theorem abides_below {β:Type} {B:Nat} {J:β→World→Prop} (hJ:AbidesFrom B J) {s:β} {W W':World} (h:J s W) (hb:Below W.heap.size W W'):J s W' :=
 hJ s W W' none h ⟨hb.os,hb.tape,hb.output,hb.size,fun k hk _=>hb.block k hk⟩ (fun r e=>by cases e)
theorem BoxC.kept {B n1:Nat} {W W':World} {b:Nat} {v0 v1 v2 v3:Value} (h:BoxC W b v0 v1 v2 v3) (hk:KpC B n1 W W') (hb:n1≤b):BoxC W' b v0 v1 v2 v3:=hk.2 b _ hb h rfl
def BoxT (W:World) (b:Nat) (k:Int) (na:Option Addr) (nn nc:Nat) (ra:Option Addr) (rn rc:Nat) (ka:Option Addr) (kn kc:Nat):Prop :=
 W.heap[b]?=some (.cells #[.int .i64 k,.slice na nn nc,.slice ra rn rc,.slice ka kn kc,.func (.func 95) #[] #[]] 107 (0,0))
theorem BoxT.cells {W:World} {b:Nat} {k:Int} {na:Option Addr} {nn nc:Nat} {ra:Option Addr} {rn rc:Nat} {ka:Option Addr} {kn kc:Nat} (h:BoxT W b k na nn nc ra rn rc ka kn kc) :
    W.cell? ⟨b,0,none⟩=some (.int .i64 k)∧W.cell? ⟨b,1,none⟩=some (.slice na nn nc)∧W.cell? ⟨b,2,none⟩=some (.slice ra rn rc)∧W.cell? ⟨b,3,none⟩=some (.slice ka kn kc)∧W.cell? ⟨b,4,none⟩=some (.func (.func 95) #[] #[]):=by
 unfold BoxT at h;refine ⟨?_,?_,?_,?_,?_⟩ <;> simp [World.cell?,h]
theorem BoxT.kept {B n1:Nat} {W W':World} {b:Nat} {k:Int} {na:Option Addr} {nn nc:Nat} {ra:Option Addr} {rn rc:Nat} {ka:Option Addr} {kn kc:Nat} (h:BoxT W b k na nn nc ra rn rc ka kn kc) (hk:KpC B n1 W W') (hb:n1≤b):BoxT W' b k na nn nc ra rn rc ka kn kc:=hk.2 b _ hb h rfl
theorem RdC.form4 {lo hi d:Nat} {w:World} {v0 v1 v2 v3:Value} {c:CN} (h:RdC lo hi w d (.agg #[v0,v1,v2,v3]) c):∃ k na nn nc ra rn rc ka kn kc,v0=.int .i64 k∧v1=.slice na nn nc∧v2=.slice ra rn rc∧v3=.slice ka kn kc:=by
 cases d with
 | zero=>exact h.elim
 | succ d =>
  obtain ⟨na,nn,nc,ra,rn,rc,ka,kn,kc,hv,_⟩:=h;simp only [Value.agg.injEq,Array.mk.injEq,List.cons.injEq,and_true] at hv;exact ⟨_,_,_,_,_,_,_,_,_,_,hv.1,hv.2.1,hv.2.2.1,hv.2.2.2⟩
def TellOk (lo hi B n1 N l:Nat) (w0:World) (J Jx:List (Item lo hi w0)→World→Prop) (tk:Int) (ta:Option Addr) (tn tc:Nat) (sa:Option Addr) (sn sc:Nat) (ua:Option Addr) (un uc:Nat) (d:Nat):Prop :=
 ∀ (n deep:Nat) (v:Value) (c:CN) (pre:List (Item lo hi w0)) (W:World),RdC lo hi w0 d v c→Below B w0 W→n1≤W.heap.size→J pre W→pre.length+(parts c deep).length≤N→deep+c.bulk≤1099511627776 →
  CallsIn Fence.wide n Tryz.prog 97 #[.agg #[.int .i64 tk,.slice ta tn tc,.slice sa sn sc,.slice ua un uc,.func (.func 95) #[] #[]],.int .i64 deep,v,.func (.yield l) #[] #[]] W fun e W' =>
   (e=.returned (.bool true)∧(∃ ys,ys.map Item.m=parts c deep∧J (pre++ys) W')∧KpC B n1 W W')∨(e=.returned (.bool false)∧∃ q,q.map Item.m <+: parts c deep∧Jx (pre++q) W')
set_option maxRecDepth 100000 in
set_option maxHeartbeats 2000000 in
theorem tell_of {lo hi B n1 N l:Nat} {w0:World} {J Jx:List (Item lo hi w0)→World→Prop} {B':Nat} (hJ:AbidesFrom B' J) (z:hi≤B) (F:B≤n1)
    (hY:∀ m pre x W,J pre W→pre.length<N→YieldAt Fence.wide m Tryz.prog l (encI x) W fun e W' =>
     (e=.returned (.bool true)∧J (pre++[x]) W'∧KpC B n1 W W')∨(e=.returned (.bool false)∧Jx (pre++[x]) W'))
    {tk:Int} {ta:Option Addr} {tn tc:Nat} {sa:Option Addr} {sn sc:Nat} {ua:Option Addr} {un uc:Nat} {d:Nat} (ih:TellOk lo hi B n1 N l w0 J Jx tk ta tn tc sa sn sc ua un uc d):TellOk lo hi B n1 N l w0 J Jx tk ta tn tc sa sn sc ua un uc (d+1):=by
 intro n deep v c pre W hR hW E aF hN bg;have U:Hid (RdC lo hi w0 (d+1) v c):=hR;obtain ⟨na,nn,nc,ra,rn,rc,ka,kn,kc,rfl,_,_,hk⟩:=hR;obtain ⟨k,aB⟩:∃ k,k=c.kind:=⟨_,rfl⟩;rw [← aB] at U ⊢;have aN:Hid (c.kids.length=kn):=hk.len;have be:=hk.fits;have hP:=parts_eq c deep;have Z:=c.bulk_eq;have HP:Hid (parts c deep=(deep,c) :: partsL c.kids (deep+1)):=hP;have b3:Hid (c.bulk=c.name.length+c.role.length+bulks c.kids):=Z;have HN:Hid (pre.length+1+(partsL c.kids (deep+1)).length≤N):=by rw [hP] at hN;simp at hN;unfold Hid;omega
 have HK:Hid (RdL (RdC lo hi w0 d) lo hi w0 ka kn kc c.kids):=hk;obtain ⟨W1,T⟩:∃ W1,W1=(W.alloc (.cells #[.int .i64 tk,.slice ta tn tc,.slice sa sn sc,.slice ua un uc,.func (.func 95) #[] #[]] 107)).alloc (.cells #[.int .i64 k,.slice na nn nc,.slice ra rn rc,.slice ka kn kc] 37):=⟨_,rfl⟩;have ak:Below W.heap.size W W1:=by rw [T];exact ((Below.refl _ _).alloc (Nat.le_refl _) _).alloc (by simp) _
 have b7:Hid (Below W.heap.size W W1):=ak;have b4:Hid (BoxT W1 W.heap.size tk ta tn tc sa sn sc ua un uc):=by unfold Hid;rw [T];exact (Below.heap_alloc _ _ _ (by simp)).trans (World.alloc_heap_new W _)
 have b5:Hid (BoxC W1 (W.heap.size+1) (.int .i64 k) (.slice na nn nc) (.slice ra rn rc) (.slice ka kn kc)):=by unfold Hid;rw [T];have:=BoxC.new (W.alloc (.cells #[.int .i64 tk,.slice ta tn tc,.slice sa sn sc,.slice ua un uc,.func (.func 95) #[] #[]] 107)) (.int .i64 k) (.slice na nn nc) (.slice ra rn rc) (.slice ka kn kc);rwa [World.size_alloc] at this
 have aS:Hid (W1=(W.alloc (.cells #[.int .i64 tk,.slice ta tn tc,.slice sa sn sc,.slice ua un uc,.func (.func 95) #[] #[]] 107)).alloc (.cells #[.int .i64 k,.slice na nn nc,.slice ra rn rc,.slice ka kn kc] 37)):=T;have a5:=abides_below hJ aF ak;have a2:=hY (n - 1) pre ⟨deep,.agg #[.int .i64 k,.slice na nn nc,.slice ra rn rc,.slice ka kn kc],c,d+1,U.out⟩ W1 a5 (by have:=HN.out;omega);unfold encI at a2;dsimp only at a2;rw [T] at a2;obtain ⟨fn,tmps,assign,body,hy,aC⟩:=a2
 have aL:Hid (RoundIn Fence.wide (n - 1) Tryz.prog l fn tmps assign body ((W.alloc (.cells #[.int .i64 tk,.slice ta tn tc,.slice sa sn sc,.slice ua un uc,.func (.func 95) #[] #[]] 107)).alloc (.cells #[.int .i64 k,.slice na nn nc,.slice ra rn rc,.slice ka kn kc] 37)) fun e W' =>
     (e=.returned (.bool true)∧J (pre++[⟨deep,.agg #[.int .i64 k,.slice na nn nc,.slice ra rn rc,.slice ka kn kc],c,d+1,U.out⟩]) W'∧KpC B n1 ((W.alloc (.cells #[.int .i64 tk,.slice ta tn tc,.slice sa sn sc,.slice ua un uc,.func (.func 95) #[] #[]] 107)).alloc (.cells #[.int .i64 k,.slice na nn nc,.slice ra rn rc,.slice ka kn kc] 37)) W')∨(e=.returned (.bool false)∧Jx (pre++[⟨deep,.agg #[.int .i64 k,.slice na nn nc,.slice ra rn rc,.slice ka kn kc],c,d+1,U.out⟩]) W')):=aC
 clear aC a5 T ak hk aB hP Z hN aF hY;refine callsIn_of_wp Tryz.func97 rfl trivial ?_ rfl;simp only [Tryz.ntmps97,List.size_toArray,List.length_cons,List.length_nil,Nat.reduceAdd,Nat.reduceSub,Array.replicate_succ,Array.replicate_zero,List.push_toArray,List.append_toArray,List.nil_append,List.cons_append]
 gi_wp2_with fail
 refine ⟨fun h=>(by cases h),?_⟩;refine aL.out.mono ?_;rintro e W2 (⟨rfl,aE,X⟩ | ⟨rfl,aP⟩)
 · rw [← aS.out] at X;have H:=b4.out.kept X E;have I:=b5.out.kept X (Nat.le_succ_of_le E);have av:Hid (BoxT W2 W.heap.size tk ta tn tc sa sn sc ua un uc):=H;have ax:Hid (BoxC W2 (W.heap.size+1) (.int .i64 k) (.slice na nn nc) (.slice ra rn rc) (.slice ka kn kc)):=I;obtain ⟨p0,p1,p2,p3,p4⟩:=H.cells;obtain ⟨q0,q1,q2,q3⟩:=I.cells;have a1:Hid (KpC B n1 W W2):=(KpC.of_below b7.out (Nat.le_trans F E)).trans X;have aZ:Hid (J (pre++[⟨deep,.agg #[.int .i64 k,.slice na nn nc,.slice ra rn rc,.slice ka kn kc],c,d+1,U.out⟩]) W2):=aE;have bd:W.heap.size+1<W2.heap.size:=ax.out.lt;clear X H I aE aL hy
   gi_wp2_with fail
   refine ⟨trivial,fun h=>(by cases h),?_⟩;refine (kidsOf_in _ _ _ _ _ _).mono ?_;rintro e W3 ⟨rfl,aA⟩;have a0:Below W2.heap.size W2 W3:=by rw [aA];exact (Below.refl _ _).alloc (Nat.le_refl _) _
   have bc:=a0.size;have ao:Hid (KpC B n1 W W3):=a1.out.trans (KpC.of_below a0 (by have:=a1.out.1.size;omega));have au:Hid (BoxT W3 W.heap.size tk ta tn tc sa sn sc ua un uc):=av.out.kept (KpC.of_below (B:=0) (n1:=0) a0 (Nat.zero_le _)) (Nat.zero_le _);have aY:Hid (J (pre++[⟨deep,.agg #[.int .i64 k,.slice na nn nc,.slice ra rn rc,.slice ka kn kc],c,d+1,U.out⟩]) W3):=abides_below hJ aZ.out a0;clear aA a0 p0 p1 p2 p3 p4 q0 q1 q2 q3
   gi_wp2_with fail
   gi_loopw [21] (fun i wr=>∃ (j:Nat) (ys:List (Item lo hi w0)),j≤kn∧i=.int .i64 j∧ys.map Item.m=(deep,c) :: partsL (c.kids.take j) (deep+1)∧J (pre++ys) wr∧KpC B n1 W wr∧BoxT wr W.heap.size tk ta tn tc sa sn sc ua un uc∧W.heap.size+1<wr.heap.size) (fun i _=>kn - (intOf i).toNat)
   case atStart=>exact ⟨0,_,Nat.zero_le _,rfl,by simp [partsL,Item.m],aY.out,ao.out,au.out,by omega⟩
   case round =>
    obtain ⟨j,ys,hj,rfl,V,am,a3,a7,b9⟩:=hrel;have a8:Hid (ys.map Item.m=(deep,c) :: partsL (c.kids.take j) (deep+1)):=V;have aO:Hid (J (pre++ys) wr):=am;have aM:Hid (KpC B n1 W wr):=a3;have b2:Hid (BoxT wr W.heap.size tk ta tn tc sa sn sc ua un uc):=a7;have Y:Below B w0 wr:=hW.trans a3.1;by_cases hlt:j<kn
    · have aj:j<c.kids.length:=by rw [aN.out];exact hlt
      rcases HK.out.cells with hz | ⟨b,off,e1,_,G,hc⟩
      · omega
      subst e1;obtain ⟨v0,v1,v2,v3,aJ,aI,aH,aG,ai⟩:=hc j hlt;have c0:=(Y.cell (p:=⟨b,off+j*4,none⟩) (Nat.lt_of_lt_of_le G z)).trans aJ;have c1:=(Y.cell (p:=⟨b,off+j*4+1,none⟩) (Nat.lt_of_lt_of_le G z)).trans aI;have c2:=(Y.cell (p:=⟨b,off+j*4+2,none⟩) (Nat.lt_of_lt_of_le G z)).trans aH;have c3:=(Y.cell (p:=⟨b,off+j*4+3,none⟩) (Nat.lt_of_lt_of_le G z)).trans aG;obtain ⟨kk,ae,ac,ad,ab,a9,aa,ah,af,ag,rfl,rfl,rfl,rfl⟩:=ai.form4;have ap:Hid (RdC lo hi w0 d (.agg #[.int .i64 kk,.slice ae ac ad,.slice ab a9 aa,.slice ah af ag]) (c.kids.getD j CN.zero)):=ai;obtain ⟨p0,p1,p2,p3,p4⟩:=a7.cells;have bf:(j:Int)<(kn:Int):=by omega
      have b8:W.heap.size<wr.heap.size:=by omega
      have HT:Hid (partsL (c.kids.take (j+1)) (deep+1)=partsL (c.kids.take j) (deep+1)++parts (c.kids.getD j CN.zero) (deep+1)):=partsL_take_succ _ _ _ aj;have aK:Hid (partsL c.kids (deep+1)=partsL (c.kids.take (j+1)) (deep+1)++partsL (c.kids.drop (j+1)) (deep+1)):=partsL_take_drop _ _ _;have aQ:=getD_bulk_le c.kids j aj;have aT:Hid (deep+1+(c.kids.getD j CN.zero).bulk≤1099511627776):=by have:=b3.out;unfold Hid;omega
      obtain ⟨W4,al⟩:∃ W4,W4=wr.alloc (.cells #[.int .i64 kk,.slice ae ac ad,.slice ab a9 aa,.slice ah af ag] 37):=⟨_,rfl⟩;have O:Below wr.heap.size wr W4:=by rw [al];exact (Below.refl _ _).alloc (Nat.le_refl _) _
      have b6:Hid (Below wr.heap.size wr W4):=O;have aR:Hid (W4=wr.alloc (.cells #[.int .i64 kk,.slice ae ac ad,.slice ab a9 aa,.slice ah af ag] 37)):=al;have aV:Hid (KpC B n1 W W4):=aM.out.trans (KpC.of_below O (by omega));have ar:Hid (BoxT W4 W.heap.size tk ta tn tc sa sn sc ua un uc):=b2.out.kept (KpC.of_below (B:=0) (n1:=0) O (Nat.zero_le _)) (Nat.zero_le _);have aX:Hid (J (pre++ys) W4):=abides_below hJ aO.out O;have bb:=O.size
      have an:Hid ((pre++ys).length+(parts (c.kids.getD j CN.zero) (deep+1)).length≤N):=by
       have e1:=congrArg List.length a8.out;have e2:=congrArg List.length HT.out;have e3:=congrArg List.length aK.out;simp only [List.length_map,List.length_cons,List.length_append] at e1 e2 e3;have:=HN.out;unfold Hid;rw [List.length_append];omega
      clear V am a3 a7 hc ai aJ aI aH aG O al aQ aj
      gi_wp2_with fail
      rw [← aR.out];refine ⟨trivial,fun h=>(by cases h),?_⟩;refine (ih (n - 1) (deep+1) _ (c.kids.getD j CN.zero) (pre++ys) W4 ap.out (Y.trans ?_) (by omega) aX.out an.out aT.out).mono ?_
      · exact b6.out.mono (by omega)
      rintro e W5 (⟨rfl,⟨zs,ay,aD⟩,a4⟩ | ⟨rfl,q,hq,az⟩)
      · have HE:Hid ((ys++zs).map Item.m=(deep,c) :: partsL (c.kids.take (j+1)) (deep+1)):=by unfold Hid;rw [List.map_append,a8.out,ay,HT.out];rfl
        have aW:Hid (J (pre++(ys++zs)) W5):=by unfold Hid;rw [← List.append_assoc];exact aD
        have aU:Hid (KpC B n1 W W5):=aV.out.trans a4;have aq:Hid (BoxT W5 W.heap.size tk ta tn tc sa sn sc ua un uc):=ar.out.kept a4 E;have ba:=a4.1.size;clear ay aD a4
        gi_wp2_with fail
        go_roundw
        case rel=>exact ⟨j+1,_,by omega,by go_num,HE.out,aW.out,aU.out,aq.out,by omega⟩
        case measure=>simp [intOf];omega
      have HQ:Hid ((ys++q).map Item.m <+: parts c deep):=by
       obtain ⟨t,ht⟩:=hq;refine ⟨t++partsL (c.kids.drop (j+1)) (deep+1),?_⟩;rw [HP.out,aK.out,HT.out,← ht,List.map_append,a8.out];simp
      have HX:Hid (Jx (pre++(ys++q)) W5):=by unfold Hid;rw [← List.append_assoc];exact az
      clear hq az
      gi_wp2_with fail
      go_ret;exact .inr ⟨rfl,_,HQ.out,HX.out⟩
    have HE:Hid (ys.map Item.m=parts c deep):=by unfold Hid;rw [a8.out,HP.out,List.take_of_length_le (by rw [aN.out];omega)]
    clear V am a3 a7
    gi_wp2_with fail
    go_ret;exact .inl ⟨rfl,⟨ys,HE.out,aO.out⟩,aM.out⟩
 gi_wp2_with fail
 go_ret;exact .inr ⟨rfl,_,⟨partsL c.kids (deep+1),by rw [HP.out];rfl⟩,aP⟩
theorem tell_any {lo hi B n1 N l:Nat} {w0:World} {J Jx:List (Item lo hi w0)→World→Prop} {B':Nat} (hJ:AbidesFrom B' J) (z:hi≤B) (F:B≤n1)
    (hY:∀ m pre x W,J pre W→pre.length<N→YieldAt Fence.wide m Tryz.prog l (encI x) W fun e W' =>
     (e=.returned (.bool true)∧J (pre++[x]) W'∧KpC B n1 W W')∨(e=.returned (.bool false)∧Jx (pre++[x]) W'))
    {tk:Int} {ta:Option Addr} {tn tc:Nat} {sa:Option Addr} {sn sc:Nat} {ua:Option Addr} {un uc:Nat}:∀ d,TellOk lo hi B n1 N l w0 J Jx tk ta tn tc sa sn sc ua un uc d
 | 0=>fun _ _ _ _ _ _ h=>h.elim
 | d+1=>tell_of hJ z F hY (tell_any hJ z F hY d)
set_option maxHeartbeats 1000000 in
theorem all1_in {lo hi B n1 l:Nat} {w0:World} {J Jx:List (Item lo hi w0)→World→Prop} {B':Nat} (hJ:AbidesFrom B' J) (z:hi≤B) (F:B≤n1) (n Bt:Nat) (c:CN) {d:Nat}
    {k:Int} {na:Option Addr} {nn nc:Nat} {ra:Option Addr} {rn rc:Nat} {ka:Option Addr} {kn kc:Nat} (hR:RdC lo hi w0 d (.agg #[.int .i64 k,.slice na nn nc,.slice ra rn rc,.slice ka kn kc]) c) (Z:c.bulk≤1073741824)
    (hY:∀ m pre x W,J pre W→pre.length<(parts c 1).length→YieldAt Fence.wide m Tryz.prog l (encI x) W fun e W' =>
     (e=.returned (.bool true)∧J (pre++[x]) W'∧KpC B n1 W W')∨(e=.returned (.bool false)∧Jx (pre++[x]) W'))
    (W:World) (hW:Below B w0 W) (E:n1≤W.heap.size) (a6:BoxT W Bt k na nn nc ra rn rc ka kn kc) (h0:J [] W) :
    CallsIn Fence.wide n Tryz.prog 96 #[.func (.yield l) #[] #[],.pointer (some ⟨Bt,0,none⟩)] W fun e W'=>(∃ v,e=.returned v) ∧
     ((∃ ys,ys.map Item.m=parts c 1∧J ys W')∨(∃ pre,pre.map Item.m <+: parts c 1∧Jx pre W')):=by
 obtain ⟨p0,p1,p2,p3,p4⟩:=a6.cells;have HT:Hid (TellOk lo hi B n1 (parts c 1).length l w0 J Jx k na nn nc ra rn rc ka kn kc d):=tell_any hJ z F hY d;have HR:Hid (RdC lo hi w0 d (.agg #[.int .i64 k,.slice na nn nc,.slice ra rn rc,.slice ka kn kc]) c):=hR;clear hY hR;refine callsIn_of_wp Tryz.func96 rfl trivial ?_ rfl;simp only [Tryz.ntmps96,List.size_toArray,List.length_cons,List.length_nil,Nat.reduceAdd,Nat.reduceSub,Array.replicate_succ,Array.replicate_zero,List.push_toArray,List.append_toArray,List.nil_append,List.cons_append]
 gi_wp2_with fail
 refine ⟨trivial,fun h=>(by cases h),?_⟩;refine (HT.out (n - 1) 1 _ c [] W HR.out hW E h0 (by simp) (by omega)).mono ?_;rintro e W1 (⟨rfl,⟨ys,V,a5⟩,_⟩ | ⟨rfl,q,hq,hx⟩)
 · gi_wp2_with fail
   go_end0;exact ⟨⟨_,rfl⟩,.inl ⟨ys,V,by simpa using a5⟩⟩
 gi_wp2_with fail
 go_end0;exact ⟨⟨_,rfl⟩,.inr ⟨q,hq,by simpa using hx⟩⟩
theorem parts_stops {lo hi B n1:Nat} (n Bt:Nat) {w0 w:World} (z:hi≤B) (F:B≤n1) (c:CN) {d:Nat}
    {k:Int} {na:Option Addr} {nn nc:Nat} {ra:Option Addr} {rn rc:Nat} {ka:Option Addr} {kn kc:Nat} (hR:RdC lo hi w0 d (.agg #[.int .i64 k,.slice na nn nc,.slice ra rn rc,.slice ka kn kc]) c) (Z:c.bulk≤1073741824)
    (hb:Below B w0 w) (E:n1≤w.heap.size) (a6:BoxT w Bt k na nn nc ra rn rc ka kn kc) :
    SeqStopsK Fence.wide n Tryz.prog 96 #[.pointer (some ⟨Bt,0,none⟩)] (encI (lo:=lo) (hi:=hi) (w0:=w0)) (KpC B n1) (fun ys=>ys.map Item.m=parts c 1) (fun pre=>pre.map Item.m <+: parts c 1) (parts c 1).length w:=fun _ _ _ W hW hJ _ hY h0 =>
 all1_in hJ z F n Bt c hR Z (fun m pre x W hj hl=>yieldAt_wide m (hY pre x W hj hl)) W (hb.trans (hW.mono (Nat.le_trans F E))) (Nat.le_trans E hW.size) ((hW.block Bt (Array.getElem?_eq_some_iff.1 a6).1).trans a6) h0
end

section
open Go.RowKit
set_option maxRecDepth 100000 in
set_option maxHeartbeats 2000000 in
theorem shapeOk_any {d:Nat} {v:Value} {c:CN} {w:World} {lo hi:Nat} (h:RdC lo hi w d v c) (F:hi≤w.heap.size) :
    Calls Tryz.prog 85 #[v] w fun e w'=>e=.returned (.bool (shapeB c))∧Below w.heap.size w w':=by
 cases d with
 | zero=>exact h.elim
 | succ d =>
  have H:Hid (RdC lo hi w (d+1) v c):=h;obtain ⟨na,nn,nc,ra,rn,rc,ka,kn,kc,rfl,_,_,hk⟩:=h;have V:Hid (c.kids.length=kn):=hk.len;have HS:Hid (shapeB c=(nameFit c && (roleFit c && decide ((kn:Int)=kidN c.kind)))):=by unfold Hid shapeB;rw [hk.len]
  obtain ⟨k,U⟩:∃ k,k=c.kind:=⟨_,rfl⟩;rw [← U] at H HS ⊢;have I:Below w.heap.size w (w.alloc (.cells #[.int .i64 k,.slice na nn nc,.slice ra rn rc,.slice ka kn kc] 37)).drew:=((Below.refl _ _).alloc (Nat.le_refl _) _).drew;have D:Hid (Below w.heap.size w (w.alloc (.cells #[.int .i64 k,.slice na nn nc,.slice ra rn rc,.slice ka kn kc] 37)).drew):=I;have N:Hid (RdC lo hi (w.alloc (.cells #[.int .i64 k,.slice na nn nc,.slice ra rn rc,.slice ka kn kc] 37)).drew (d+1) (.agg #[.int .i64 k,.slice na nn nc,.slice ra rn rc,.slice ka kn kc]) c):=H.out.below I F;have E:Hid (BoxC (w.alloc (.cells #[.int .i64 k,.slice na nn nc,.slice ra rn rc,.slice ka kn kc] 37)).drew w.heap.size (.int .i64 k) (.slice na nn nc) (.slice ra rn rc) (.slice ka kn kc)):=BoxC.new w _ _ _ _;clear hk U I;cases hN:nameFit c
  · have HE:Hid (shapeB c=false):=by unfold Hid;rw [HS.out,hN];rfl
    go_enter Tryz.func85, Tryz.ntmps85;go_wp2_with fail
    first | go_region_with (go_at_call 103;refine (nameFits_any N.out (Nat.le_trans F D.out.size)).mono ?_;rintro e w1 ⟨rfl,A⟩;rw [hN];have j:Hid (Below w.heap.size w w1):=D.out.trans (A.mono D.out.size);clear A) | fail
    all_goals
     go_wp2_with fail;go_ret;exact ⟨rb HE.out.symm,j.out⟩
  cases hR:roleFit c
  · have HE:Hid (shapeB c=false):=by unfold Hid;rw [HS.out,hN,hR];rfl
    go_enter Tryz.func85, Tryz.ntmps85;go_wp2_with fail
    first | go_region_with (first | (go_at_call 103;refine (nameFits_any N.out (Nat.le_trans F D.out.size)).mono ?_;rintro e w1 ⟨rfl,A⟩;rw [hN];have j:Hid (Below w.heap.size w w1):=D.out.trans (A.mono D.out.size);have J:Hid (RdC lo hi w1 (d+1) (.agg #[.int .i64 k,.slice na nn nc,.slice ra rn rc,.slice ka kn kc]) c):=H.out.below j.out F;have z:Hid (BoxC w1 w.heap.size (.int .i64 k) (.slice na nn nc) (.slice ra rn rc) (.slice ka kn kc)):=E.out.below A E.out.lt;obtain ⟨c0,c1,c2,c3⟩:=z.out.cells;clear A) | (go_at_call 104;refine (roleFits_any J.out (Nat.le_trans F j.out.size)).mono ?_;rintro e w2 ⟨rfl,G⟩;rw [hR];have O:Hid (Below w.heap.size w w2):=j.out.trans (G.mono j.out.size);clear G)) | fail
    all_goals
     go_wp2_with fail;go_ret;exact ⟨rb HE.out.symm,O.out⟩
  have HE:Hid (shapeB c=((kn:Int) == kidN k)):=by unfold Hid;rw [HS.out,hN,hR];rfl
  go_enter Tryz.func85, Tryz.ntmps85;go_wp2_with fail
  first | go_region_with (first | (go_at_call 103;refine (nameFits_any N.out (Nat.le_trans F D.out.size)).mono ?_;rintro e w1 ⟨rfl,A⟩;rw [hN];have j:Hid (Below w.heap.size w w1):=D.out.trans (A.mono D.out.size);have J:Hid (RdC lo hi w1 (d+1) (.agg #[.int .i64 k,.slice na nn nc,.slice ra rn rc,.slice ka kn kc]) c):=H.out.below j.out F;have z:Hid (BoxC w1 w.heap.size (.int .i64 k) (.slice na nn nc) (.slice ra rn rc) (.slice ka kn kc)):=E.out.below A E.out.lt;obtain ⟨c0,c1,c2,c3⟩:=z.out.cells;clear A) | (go_at_call 104;refine (roleFits_any J.out (Nat.le_trans F j.out.size)).mono ?_;rintro e w2 ⟨rfl,G⟩;rw [hR];have O:Hid (Below w.heap.size w w2):=j.out.trans (G.mono j.out.size);have T:Hid (BoxC w2 w.heap.size (.int .i64 k) (.slice na nn nc) (.slice ra rn rc) (.slice ka kn kc)):=z.out.below G z.out.lt;obtain ⟨e0,e1,e2,e3⟩:=T.out.cells;clear G) | (go_at_call 83;refine (kidCount_any _ _).mono ?_;rintro e w3 ⟨rfl,hw⟩;rw [hw];clear hw)) | fail
  all_goals
   go_wp2_with fail;go_ret;exact ⟨rb HE.out.symm,O.out⟩
end

end Go.Proofs.YtocpeiaolofodaaGreat
