/- Several texts in one: ResS, ResK4. -/
import Derived.Test.YtkjmfaohdhiiaaaNG10
import Derived.Test.YtkjmfaohdhiiaaaNG8
import Derived.Test.YtkjmfaohdhiiaaaNG7
import Derived.Test.YtkjmfaohdhiiaaaNG11
import Derived.Test.YtkjmfaohdhiiaaaNG3
namespace Go.Proofs.Ytkjmfaohdhiiaaa

section
open Go.RowKit
set_option linter.unusedVariables false
theorem run_append_nilQ {P:Program} (w:World) (t rt e:TypeId) (i:TypeInfo) (ht:P.underlying t=some (.slice e)) (hi:P.info? e=some i) (base:Option Addr) (n z c:Nat) (h:n≤z) :
    (Builtin.append_ #[t,t] rt #[.slice base n z,.slice none 0 c]).run P w=.ok (.slice base n z) w:=by
 cases base <;> simp [Builtin.append_,run_underlying ht,sizeOf,typeInfo,hi,Builtin.lenOf,Builtin.firstCells,storeCells,h]
theorem wpList_append_nilQ {P:Program} {w:World} {a0:Array Oper} {rest:List Oper} {o:Oper} {a:Act} {Q:Exit→Act→World→Prop} (ae:o.guard=none) (s x:Operand) (t e:TypeId) (i:TypeInfo)
    (ho:o.op=.call { callee:=.builtin .append,args:=#[s,x],argTypes:=#[t,t] }) (ht:P.underlying t=some (.slice e)) (hi:P.info? e=some i) (base:Option Addr) (n z c:Nat) (hn:n≤z) (hs:a.eval s=.slice base n z) (hx:a.eval x=.slice none 0 c)
    (h:wpList P a0 Q rest (a.put o.dst (.slice base n z)) w):wpList P a0 Q (o :: rest) a w:=by
 refine wpList_plain ae fun K hK=>?_
 have hr:=run_append_nilQ (P:=P) w t o.type e i ht hi base n z c hn;unfold Oper.wp execOp;simp only [ho,resolve,invoke,builtin,Sem.run_bind,Sem.run_pure,Result.andThen_ok,List.map_toArray,List.map_cons,List.map_nil,hs,hx,hr];exact hK _ _ h
theorem Try.infoPt:(Try.prog.info? 29).map (fun i=>(i.zero,i.size,i.bytes))=some (some (.agg #[.int .i64 0,.int .i64 0]),2,16):=by kernel_rfl
def SoP (w:World) (c:CL) (e:Ending) (w':World):Prop :=
 ∃ (g vc:Nat),e=.returned (.agg #[.int .i64 c.kind,.int .i64 c.fn,.int .i64 c.role,.int .i64 c.above,.int .i64 c.xp,.int .i64 c.xn,.int .i64 c.yp,.int .i64 c.yn,.slice (some ⟨g,0,none⟩) c.inds.length vc,.int .i64 c.a,.int .i64 c.b])∧OwnP w.heap.size w' (.slice (some ⟨g,0,none⟩) c.inds.length vc) c.inds∧Below w.heap.size w w'
theorem soEnd {w W1 w5:World} {c:CL} {ic:Option Addr} {cc B:Nat} {v5 row:Value} (hB:B=w.heap.size+2) (h1:Below w.heap.size w W1) (hs:B≤W1.heap.size) (hx:BoxK 32 W1 w.heap.size c.kind c.fn c.role c.above c.xp c.xn c.yp c.yn (.slice ic c.inds.length cc) c.a c.b) (hz:W1.heap[w.heap.size+1]?=some (.cells #[.int .i64 0,.int .i64 0,.int .i64 0,.int .i64 0,.int .i64 0,.int .i64 0,.int .i64 0,.int .i64 0,.slice none 0 0,.int .i64 0,.int .i64 0] 32 (0,0)))
    (ho:w5.ownsRow B 29 2 v5 c.inds.length (flatP c.inds)) (hg:W1.grownBy w5 row.ownBlock) (hr:∀ g,row.ownBlock=some g→B≤g) (hv:v5≠.slice none 0 0) :
    ∃ g vc,v5=.slice (some ⟨g,0,none⟩) c.inds.length vc∧w5.cell? ⟨w.heap.size,8,none⟩=some (.slice ic c.inds.length cc)∧w5.frozen? ⟨w.heap.size,8,none⟩=false ∧
     BoxK 32 (w5.setCell ⟨w.heap.size,8,none⟩ (.slice (some ⟨g,0,none⟩) c.inds.length vc)) w.heap.size c.kind c.fn c.role c.above c.xp c.xn c.yp c.yn (.slice (some ⟨g,0,none⟩) c.inds.length vc) c.a c.b ∧
     (w5.setCell ⟨w.heap.size,8,none⟩ (.slice (some ⟨g,0,none⟩) c.inds.length vc)).heap[w.heap.size+1]?=some (.cells #[.int .i64 0,.int .i64 0,.int .i64 0,.int .i64 0,.int .i64 0,.int .i64 0,.int .i64 0,.int .i64 0,.slice none 0 0,.int .i64 0,.int .i64 0] 32 (0,0)) ∧
     OwnP w.heap.size ((w5.setCell ⟨w.heap.size,8,none⟩ (.slice (some ⟨g,0,none⟩) c.inds.length vc)).setRow (w.heap.size+1) #[.int .i64 c.kind,.int .i64 c.fn,.int .i64 c.role,.int .i64 c.above,.int .i64 c.xp,.int .i64 c.xn,.int .i64 c.yp,.int .i64 c.yn,.slice (some ⟨g,0,none⟩) c.inds.length vc,.int .i64 c.a,.int .i64 c.b]) (.slice (some ⟨g,0,none⟩) c.inds.length vc) c.inds ∧
     Below w.heap.size w ((w5.setCell ⟨w.heap.size,8,none⟩ (.slice (some ⟨g,0,none⟩) c.inds.length vc)).setRow (w.heap.size+1) #[.int .i64 c.kind,.int .i64 c.fn,.int .i64 c.role,.int .i64 c.above,.int .i64 c.xp,.int .i64 c.xn,.int .i64 c.yp,.int .i64 c.yn,.slice (some ⟨g,0,none⟩) c.inds.length vc,.int .i64 c.a,.int .i64 c.b]):=by
 rcases ho.2 with ⟨q,_⟩ | ⟨g,vc,ah,rfl,ak,hh,r⟩
 · exact absurd q hv
 have hk:∀ q,q<B→w5.heap[q]?=W1.heap[q]?:=fun q hq=>hg.block q (by omega) (fun e=>by have:=hr q e.symm;omega)
 have T:BoxK 32 w5 w.heap.size c.kind c.fn c.role c.above c.xp c.xn c.yp c.yn (.slice ic c.inds.length cc) c.a c.b:=(hk _ (by omega)).trans hx;have a8:=(hk (w.heap.size+1) (by omega)).trans hz;have H:Below w.heap.size w w5:=h1.grown hg (by omega) (fun k e=>by have:=hr k e;omega);refine ⟨g,vc,rfl,T.cells.2.2.2.2.2.2.2.2.1,T.frz 8,T.at 8 _,(Below.heap_setCell _ _ _ _ (by show w.heap.size+1≠w.heap.size;omega)).trans a8,⟨ho.1,.inr ⟨g,vc,ah,rfl,by omega,?_,r⟩⟩,below_setRow (H.setCell (Nat.le_refl _) _) (by omega)⟩;exact (setRow_other _ _ g _ (by omega)).trans ((Below.heap_setCell _ _ _ _ (by show g≠w.heap.size;omega)).trans hh)
set_option maxRecDepth 100000 in
set_option maxHeartbeats 8000000 in
theorem l6own_any (c:CL) {ic:Option Addr} {cc lo hi:Nat} {w:World} (h:RP lo hi w ic c.inds.length cc c.inds) (ac:hi≤w.heap.size) (hn:c.inds.length≤1000) :
    Calls Try.prog 68 #[.agg #[.int .i64 c.kind,.int .i64 c.fn,.int .i64 c.role,.int .i64 c.above,.int .i64 c.xp,.int .i64 c.xn,.int .i64 c.yp,.int .i64 c.yn,.slice ic c.inds.length cc,.int .i64 c.a,.int .i64 c.b]] w (SoP w c):=by
 obtain ⟨W,hW⟩:∃ W,W=(w.alloc (.cells #[.int .i64 c.kind,.int .i64 c.fn,.int .i64 c.role,.int .i64 c.above,.int .i64 c.xp,.int .i64 c.xn,.int .i64 c.yp,.int .i64 c.yn,.slice ic c.inds.length cc,.int .i64 c.a,.int .i64 c.b] 32)).alloc (.cells #[.int .i64 0,.int .i64 0,.int .i64 0,.int .i64 0,.int .i64 0,.int .i64 0,.int .i64 0,.int .i64 0,.slice none 0 0,.int .i64 0,.int .i64 0] 32):=⟨_,rfl⟩;have HW:Hid (W=(w.alloc (.cells #[.int .i64 c.kind,.int .i64 c.fn,.int .i64 c.role,.int .i64 c.above,.int .i64 c.xp,.int .i64 c.xn,.int .i64 c.yp,.int .i64 c.yn,.slice ic c.inds.length cc,.int .i64 c.a,.int .i64 c.b] 32)).alloc (.cells #[.int .i64 0,.int .i64 0,.int .i64 0,.int .i64 0,.int .i64 0,.int .i64 0,.int .i64 0,.int .i64 0,.slice none 0 0,.int .i64 0,.int .i64 0] 32)):=hW;have U:Below w.heap.size w W:=by rw [hW];exact ((Below.refl _ _).alloc (Nat.le_refl _) _).alloc (by simp) _
 have a3:W.heap.size=w.heap.size+2:=by rw [hW];simp
 have a2:BoxK 32 W w.heap.size c.kind c.fn c.role c.above c.xp c.xn c.yp c.yn (.slice ic c.inds.length cc) c.a c.b:=by
  rw [hW];exact (BoxK.new 32 w _ _ _ _ _ _ _ _ _ _ _).below ((Below.refl _ _).alloc (Nat.le_refl _) _) (by simp)
 have a1:W.heap[w.heap.size+1]?=some (.cells #[.int .i64 0,.int .i64 0,.int .i64 0,.int .i64 0,.int .i64 0,.int .i64 0,.int .i64 0,.int .i64 0,.slice none 0 0,.int .i64 0,.int .i64 0] 32 (0,0)):=by
  rw [hW];have:=World.alloc_heap_new (w.alloc (.cells #[.int .i64 c.kind,.int .i64 c.fn,.int .i64 c.role,.int .i64 c.above,.int .i64 c.xp,.int .i64 c.xn,.int .i64 c.yp,.int .i64 c.yn,.slice ic c.inds.length cc,.int .i64 c.a,.int .i64 c.b] 32)) (.cells #[.int .i64 0,.int .i64 0,.int .i64 0,.int .i64 0,.int .i64 0,.int .i64 0,.int .i64 0,.int .i64 0,.slice none 0 0,.int .i64 0,.int .i64 0] 32);rw [show (w.alloc (.cells #[.int .i64 c.kind,.int .i64 c.fn,.int .i64 c.role,.int .i64 c.above,.int .i64 c.xp,.int .i64 c.xn,.int .i64 c.yp,.int .i64 c.yn,.slice ic c.inds.length cc,.int .i64 c.a,.int .i64 c.b] 32)).heap.size=w.heap.size+1 from by simp] at this;exact this
 obtain ⟨W1,J⟩:∃ W1,W1=W.alloc (.cells #[] 29):=⟨_,rfl⟩;have X:Hid (W1=W.alloc (.cells #[] 29)):=J;have I:Below W.heap.size W W1:=by rw [J];exact (Below.refl _ _).alloc (Nat.le_refl _) _
 have H1:Hid (Below w.heap.size w W1):=U.trans (I.mono (by omega));have N:Hid (BoxK 32 W1 w.heap.size c.kind c.fn c.role c.above c.xp c.xn c.yp c.yn (.slice ic c.inds.length cc) c.a c.b):=a2.below I (by omega);have a6:Hid (W1.heap[w.heap.size+1]?=some (.cells #[.int .i64 0,.int .i64 0,.int .i64 0,.int .i64 0,.int .i64 0,.int .i64 0,.int .i64 0,.int .i64 0,.slice none 0 0,.int .i64 0,.int .i64 0] 32 (0,0))):=(I.block _ (by omega)).trans a1;have a7:Hid (W1.ownsRow W.heap.size 29 2 (.slice (some ⟨W.heap.size,0,none⟩) 0 0) 0 []):=by rw [Hid,J];exact World.ownsRow_made W #[] 0 (Nat.le_refl _) (by unfold maxLen;omega) rfl
 have O:Hid (RP lo hi W1 ic c.inds.length cc c.inds):=(h.below U ac).below I (by omega);have aj:W.heap.size<W1.heap.size:=by rw [J];simp
 have a5:Hid (W.heap.size=w.heap.size+2):=a3;obtain ⟨i0,a4,Y,aa,a9⟩:=info_parts Try.infoPt;obtain ⟨n,R⟩:∃ n,n=c.inds.length:=⟨_,rfl⟩;have HN:Hid (n=c.inds.length):=R;rw [← R] at N O HW hn ⊢;obtain ⟨y0,y1,y2,y3,y4,y5,y6,y7,y8,y9,M⟩:=N.out.cells;have Z:(W.alloc (.cells #[] 29)).cell? ⟨w.heap.size,8,none⟩=some (.slice ic n cc):=by rw [← X.out];exact y8
 clear h hW U J I a2 a1 R a3;by_cases hic:ic=none
 · subst hic
   obtain rfl:n=0:=by
    rcases O.out.cells with q | ⟨_,_,q,_⟩
    · exact q
    simp at q
   have af:c.inds=[]:=List.eq_nil_of_length_eq_zero HN.out.symm;obtain ⟨g,vc,hv,d8,f8,hk,hz,hO,d⟩:=soEnd (w:=w) (W1:=W1) (w5:=W1) (c:=c) (ic:=none) (cc:=cc) (B:=W.heap.size) (v5:=.slice (some ⟨W.heap.size,0,none⟩) 0 0) (row:=.slice none 0 0) a5.out H1.out (by omega) (by rw [← HN.out];exact N.out) a6.out (by rw [af];exact a7.out) ⟨rfl,rfl,rfl,Nat.le_refl _,fun _ _ _=>rfl⟩ (fun g e=>by simp [Value.ownBlock] at e) (by simp);rw [← HN.out] at hv d8 hk hz hO d;simp only [Value.slice.injEq,Option.some.injEq,Addr.mk.injEq,and_true,true_and] at hv;obtain ⟨rfl,rfl⟩:=hv;have HO:Hid _:=hO;have m:Hid _:=d;have HK:Hid _:=hk;have HZ:Hid _:=hz;obtain ⟨W6,E⟩:∃ W6,W6=W1.setCell ⟨w.heap.size,8,none⟩ (.slice (some ⟨W.heap.size,0,none⟩) 0 0):=⟨_,rfl⟩;have V:Hid (W6=W1.setCell ⟨w.heap.size,8,none⟩ (.slice (some ⟨W.heap.size,0,none⟩) 0 0)):=E;rw [← E] at HO m HK HZ;clear hO d hk hz E;go_enter Try.func68, Try.ntmps68;go_upto_region 1 with fail;rw [← HW.out];go_upto_region 2 with (at_builtin;rw [← X.out];refine wpList_append_nilQ rfl (.tmp 3) (.tmp 5) 30 29 i0 rfl Try.underlying30 a4 (some ⟨W.heap.size,0,none⟩) 0 0 cc (Nat.le_refl _) rfl rfl ?_);rw [← V.out];clear y0 y1 y2 y3 y4 y5 y6 y7 y8 y9 M Z d8 f8;obtain ⟨y0,y1,y2,y3,y4,y5,y6,y7,y8,y9,M⟩:=BoxK.cells HK.out;have F:=setRow_heap _ (w.heap.size+1) _ #[.int .i64 c.kind,.int .i64 c.fn,.int .i64 c.role,.int .i64 c.above,.int .i64 c.xp,.int .i64 c.xn,.int .i64 c.yp,.int .i64 c.yn,.slice (some ⟨W.heap.size,0,none⟩) 0 0,.int .i64 c.a,.int .i64 c.b] _ _ HZ.out
   go_wp2_with (first | (refine wpList_store_row rfl 32 (.tmp 2) (.tmp 8) rfl (w.heap.size+1) #[.int .i64 c.kind,.int .i64 c.fn,.int .i64 c.role,.int .i64 c.above,.int .i64 c.xp,.int .i64 c.xn,.int .i64 c.yp,.int .i64 c.yn,.slice (some ⟨W.heap.size,0,none⟩) 0 0,.int .i64 c.a,.int .i64 c.b] rfl rfl 32 #[.int .i64 0,.int .i64 0,.int .i64 0,.int .i64 0,.int .i64 0,.int .i64 0,.int .i64 0,.int .i64 0,.slice none 0 0,.int .i64 0,.int .i64 0] HZ.out infoCl11 rfl (by simp [Value.oneCell']) ?_) | fail);refine bodyPost_ret (v:=.agg #[.int .i64 c.kind,.int .i64 c.fn,.int .i64 c.role,.int .i64 c.above,.int .i64 c.xp,.int .i64 c.xn,.int .i64 c.yp,.int .i64 c.yn,.slice (some ⟨W.heap.size,0,none⟩) 0 0,.int .i64 c.a,.int .i64 c.b]) (results_cell_row rfl _ _ (w.heap.size+1) 32 #[.int .i64 c.kind,.int .i64 c.fn,.int .i64 c.role,.int .i64 c.above,.int .i64 c.xp,.int .i64 c.xn,.int .i64 c.yp,.int .i64 c.yn,.slice (some ⟨W.heap.size,0,none⟩) 0 0,.int .i64 c.a,.int .i64 c.b] (0,0) _ rfl F Try.underlying32 rfl infoCl11) rfl ?_;unfold SoP;rw [← HN.out];exact ⟨W.heap.size,0,rfl,HO.out,m.out⟩
 obtain ⟨ad,rfl⟩:∃ ad,ic=some ad:=by cases ic with
  | none=>exact absurd rfl hic
  | some ad=>exact ⟨ad,rfl⟩
 have ai:Hid (∀ j u,(flatP c.inds)[j]?=some u→W1.cell? (ad.add j)=some u):=by
  rcases O.out.cells with q | ⟨b,off,q,_⟩
  · intro j u hj;rw [List.eq_nil_of_length_eq_zero (HN.out.symm.trans q)] at hj;simp [flatP] at hj
  simp only [Option.some.injEq] at q;subst q;exact O.out.flat
 have ab:(flatP c.inds).length=n*2:=by rw [flatP_len,HN.out]
 go_enter Try.func68, Try.ntmps68;go_upto_region 1 with fail;rw [← HW.out];go_upto_region 2 with (at_builtin;rw [← X.out];refine wpList_append_own_at _ rfl (.tmp 3) (.tmp 5) 30 rfl W.heap.size 29 i0 (.agg #[.int .i64 0,.int .i64 0]) 2 16 Try.underlying30 a4 Y aa a9 rfl (by decide) (.slice (some ⟨W.heap.size,0,none⟩) 0 0) 0 [] rfl a7.out ad n cc (flatP c.inds) rfl ab ai.out (flatP_one _) (by unfold maxLen;omega) (by omega) (by omega) ?_;intro v5 w5 G D L ag;rw [List.nil_append,Nat.zero_add] at G;obtain ⟨g,vc,hv,d8,f8,hk,hz,hO,d⟩:=soEnd (w:=w) (W1:=W1) (w5:=w5) (c:=c) (ic:=some ad) (cc:=cc) (B:=W.heap.size) (v5:=v5) (row:=.slice (some ⟨W.heap.size,0,none⟩) 0 0) a5.out H1.out (by omega) (by rw [← HN.out];exact N.out) a6.out (by rw [← HN.out];exact G) D (fun g e=>by (have e2:W.heap.size=g:=by simpa [Value.ownBlock] using e);omega) (fun e=>by have:=L.1 e;simp at this);rw [← HN.out] at hv d8 hk hz hO d;subst hv;have HO:Hid _:=hO;have m:Hid _:=d;have HK:Hid _:=hk;have HZ:Hid _:=hz;obtain ⟨W6,E⟩:∃ W6,W6=w5.setCell ⟨w.heap.size,8,none⟩ (.slice (some ⟨g,0,none⟩) n vc):=⟨_,rfl⟩;have V:Hid (W6=w5.setCell ⟨w.heap.size,8,none⟩ (.slice (some ⟨g,0,none⟩) n vc)):=E;rw [← E] at HO m HK HZ;clear hO d hk hz E G D L ag y0 y1 y2 y3 y4 y5 y6 y7 y8 y9 M Z);rw [← V.out];obtain ⟨y0,y1,y2,y3,y4,y5,y6,y7,y8,y9,M⟩:=BoxK.cells HK.out
 have F:=setRow_heap _ (w.heap.size+1) _ #[.int .i64 c.kind,.int .i64 c.fn,.int .i64 c.role,.int .i64 c.above,.int .i64 c.xp,.int .i64 c.xn,.int .i64 c.yp,.int .i64 c.yn,.slice (some ⟨g,0,none⟩) n vc,.int .i64 c.a,.int .i64 c.b] _ _ HZ.out;go_wp2_with (first | (refine wpList_store_row rfl 32 (.tmp 2) (.tmp 8) rfl (w.heap.size+1) #[.int .i64 c.kind,.int .i64 c.fn,.int .i64 c.role,.int .i64 c.above,.int .i64 c.xp,.int .i64 c.xn,.int .i64 c.yp,.int .i64 c.yn,.slice (some ⟨g,0,none⟩) n vc,.int .i64 c.a,.int .i64 c.b] rfl rfl 32 #[.int .i64 0,.int .i64 0,.int .i64 0,.int .i64 0,.int .i64 0,.int .i64 0,.int .i64 0,.int .i64 0,.slice none 0 0,.int .i64 0,.int .i64 0] HZ.out infoCl11 rfl (by simp [Value.oneCell']) ?_) | fail);refine bodyPost_ret (v:=.agg #[.int .i64 c.kind,.int .i64 c.fn,.int .i64 c.role,.int .i64 c.above,.int .i64 c.xp,.int .i64 c.xn,.int .i64 c.yp,.int .i64 c.yn,.slice (some ⟨g,0,none⟩) n vc,.int .i64 c.a,.int .i64 c.b]) (results_cell_row rfl _ _ (w.heap.size+1) 32 #[.int .i64 c.kind,.int .i64 c.fn,.int .i64 c.role,.int .i64 c.above,.int .i64 c.xp,.int .i64 c.xn,.int .i64 c.yp,.int .i64 c.yn,.slice (some ⟨g,0,none⟩) n vc,.int .i64 c.a,.int .i64 c.b] (0,0) _ rfl F Try.underlying32 rfl infoCl11) rfl ?_;unfold SoP;rw [← HN.out];exact ⟨g,vc,rfl,HO.out,m.out⟩
end

section
open Go.RowKit
set_option linter.unusedVariables false
theorem RdQ.g {lo hi:Nat} {w:World} {a:Option Addr} {n G:Nat} {xs:List CL} (h:RdQ lo hi w a n G xs):RdG lo hi w a n G xs:=by
 refine ⟨h.len,h.fits,?_⟩;rcases h.cells with h0 | ⟨b,off,e,h1,h2,hc⟩
 · exact .inl h0
 refine .inr ⟨b,off,e,h1,h2,fun i hi=>?_⟩;obtain ⟨ia,ic,q,hr⟩:=hc i hi;exact ⟨ia,_,ic,q 0 _ rfl,q 1 _ rfl,q 2 _ rfl,q 3 _ rfl,q 4 _ rfl,q 5 _ rfl,q 6 _ rfl,q 7 _ rfl,q 8 _ rfl,q 9 _ rfl,q 10 _ rfl,hr⟩
theorem leafQs_mem {b off:Nat} {SS:Nat→List (Addr × IntKind)} {x:Addr × IntKind}:∀ {n:Nat},x∈leafQs b off SS n→∃ i,i<n∧x∈leafQ b (off+i*11) (SS i)
 | 0,h=>by simp [leafQs] at h
 | n+1,h=>by
  rw [leafQs,List.mem_append] at h;rcases h with h | h
  · obtain ⟨i,hi,hx⟩:=leafQs_mem h;exact ⟨i,by omega,hx⟩
  exact ⟨n,by omega,h⟩
theorem leafQ_mem {b o:Nat} {S:List (Addr × IntKind)} {x:Addr × IntKind} (h:x∈leafQ b o S):(∃ m,m<11∧m≠8∧x=(⟨b,o+m,none⟩,.i64))∨x∈S:=by
 unfold leafQ at h;simp only [List.mem_append,List.mem_cons,List.not_mem_nil,or_false] at h;rcases h with (h | h | h | h | h | h | h | h) | h | h | h
 · exact .inl ⟨0,by omega,by omega,h⟩
 · exact .inl ⟨1,by omega,by omega,h⟩
 · exact .inl ⟨2,by omega,by omega,h⟩
 · exact .inl ⟨3,by omega,by omega,h⟩
 · exact .inl ⟨4,by omega,by omega,h⟩
 · exact .inl ⟨5,by omega,by omega,h⟩
 · exact .inl ⟨6,by omega,by omega,h⟩
 · exact .inl ⟨7,by omega,by omega,h⟩
 · exact .inr h
 · exact .inl ⟨9,by omega,by omega,h⟩
 exact .inl ⟨10,by omega,by omega,h⟩
theorem leafN_nodup (b off n:Nat):((leafN b off n).map (·.1)).Nodup:=by
 induction n with
 | zero=>simp [leafN]
 | succ n ih =>
  rw [leafN_succ,List.map_append];refine List.nodup_append.2 ⟨ih,by simp,?_⟩;intro p hp q hq e;subst e;obtain ⟨x,hx,rfl⟩:=List.mem_map.1 hp;obtain ⟨i,hi,rfl⟩:=leafN_mem.1 hx;simp only [List.map_cons,List.map_nil,List.mem_cons,List.not_mem_nil,or_false,Addr.mk.injEq] at hq;omega
theorem leafQ_nodup {b o:Nat} {S:List (Addr × IntKind)} (hS:(S.map (·.1)).Nodup) (hb:∀ x∈S,x.1.block≠b):((leafQ b o S).map (·.1)).Nodup:=by
 have d:∀ x∈S,∀ m,x.1≠⟨b,o+m,none⟩:=fun x hx m e=>hb x hx (by rw [e])
 unfold leafQ;rw [List.map_append,List.map_append];refine List.nodup_append.2 ⟨?_,List.nodup_append.2 ⟨hS,?_,?_⟩,?_⟩
 · simp
 · simp
 · intro p hp q hq e;subst e;obtain ⟨x,hx,rfl⟩:=List.mem_map.1 hp;simp only [List.map_cons,List.map_nil,List.mem_cons,List.not_mem_nil,or_false] at hq;rcases hq with h | h
   · exact d x hx 9 h
   exact d x hx 10 h
 intro p hp q hq e;subst e;simp only [List.map_cons,List.map_nil,List.mem_cons,List.not_mem_nil,or_false,List.mem_append,List.mem_map] at hp hq;rcases hq with ⟨x,hx,h⟩ | h | h
 · rcases hp with hp | hp | hp | hp | hp | hp | hp | hp
   · exact d x hx 0 (h.trans hp)
   · exact d x hx 1 (h.trans hp)
   · exact d x hx 2 (h.trans hp)
   · exact d x hx 3 (h.trans hp)
   · exact d x hx 4 (h.trans hp)
   · exact d x hx 5 (h.trans hp)
   · exact d x hx 6 (h.trans hp)
   exact d x hx 7 (h.trans hp)
 · rw [h] at hp;simp at hp
 rw [h] at hp;simp at hp
theorem leafQs_nodup {b off:Nat} {SS:Nat→List (Addr × IntKind)} {B:Nat→Option Nat}:∀ {n:Nat},(∀ i,i<n→((SS i).map (·.1)).Nodup)→(∀ i,i<n→∀ x∈SS i,B i=some x.1.block∧x.1.block≠b)→(∀ i j,i<j→j<n→∀ g,B i=some g→B j≠some g)→((leafQs b off SS n).map (·.1)).Nodup
 | 0,_,_,_=>by simp [leafQs]
 | n+1,h1,h2,h3=>by
  rw [leafQs,List.map_append];refine List.nodup_append.2 ⟨leafQs_nodup (n:=n) (fun i hi=>h1 i (by omega)) (fun i hi=>h2 i (by omega)) (fun i j E hj=>h3 i j E (by omega)),leafQ_nodup (h1 n (by omega)) (fun x hx=>(h2 n (by omega) x hx).2),?_⟩;intro p hp q hq e;subst e;obtain ⟨x,hx,rfl⟩:=List.mem_map.1 hp;obtain ⟨y,hy,D⟩:=List.mem_map.1 hq;obtain ⟨i,hi,hx⟩:=leafQs_mem hx;rcases leafQ_mem hx with ⟨m,hm,_,rfl⟩ | hx
  · rcases leafQ_mem hy with ⟨m',J,_,rfl⟩ | hy
    · simp only [Addr.mk.injEq] at D;omega
    exact (h2 n (by omega) y hy).2 (by rw [D])
  rcases leafQ_mem hy with ⟨m',J,_,rfl⟩ | hy
  · exact (h2 i (by omega) x hx).2 (by rw [← D])
  exact h3 i n hi (by omega) x.1.block (h2 i (by omega) x hx).1 (by rw [(h2 n (by omega) y hy).1,D])
theorem leafQs_len {b off:Nat} {SS:Nat→List (Addr × IntKind)}:∀ {n:Nat},(∀ i,i<n→(SS i).length≤8)→(leafQs b off SS n).length≤n*18
 | 0,_=>by simp [leafQs]
 | n+1,h=>by
  have h1:=leafQs_len (b:=b) (off:=off) (n:=n) (fun i hi=>h i (by omega));have h2:=h n (by omega);rw [leafQs,List.length_append,leafQ,List.length_append,List.length_append];simp only [List.length_cons,List.length_nil];omega
def AnsQ (base:Nat) (W:World) (L:List CL) (a:Option Addr) (c:Nat):Prop:=∃ ys:List CV,OwnCs base W (.slice a L.length c) ys∧ys.map (·.1)=L
theorem AnsQ.len {L:List CL} {ys:List CV} (h:ys.map (·.1)=L):ys.length=L.length:=by rw [← h,List.length_map]
theorem AnsQ.rdg {base:Nat} {W:World} {L:List CL} {a:Option Addr} {c:Nat} (h:AnsQ base W L a c):RdG base W.heap.size W a L.length c L:=by
 obtain ⟨ys,h1,h2⟩:=h;obtain ⟨a',c',e,hq⟩:=h1.rdq;rw [AnsQ.len h2] at e hq;simp only [Value.slice.injEq,true_and] at e;obtain ⟨rfl,rfl⟩:=e;rw [h2] at hq;exact hq.g
theorem AnsQ.keep {base:Nat} {W W':World} {L:List CL} {a:Option Addr} {c:Nat} (h:AnsQ base W L a c) (hs:Same base W.heap.size W W'):AnsQ base W' L a c:=by
 obtain ⟨ys,h1,h2⟩:=h;exact ⟨ys,h1.keep hs,h2⟩
def slBlock:Value→Nat
 | .slice (some p) _ _=>p.block
 | _=>0
theorem AnsQ.leaves {base:Nat} {W:World} {L:List CL} {a:Option Addr} {c:Nat} (h:AnsQ base W L a c) (hn:L.length≤2):∃ (b:Nat) (SS:Nat→List (Addr × IntKind)),LvQs W a L.length b 0 SS∧LeafOk W (leafQs b 0 SS L.length)∧((leafQs b 0 SS L.length).map (·.1)).Nodup∧(∀ x∈leafQs b 0 SS L.length,base≤x.1.block∧x.1.block<W.heap.size)∧(leafQs b 0 SS L.length).length≤1000:=by
 obtain ⟨ys,ho,hm⟩:=h;have hl:=AnsQ.len hm;by_cases h0:L.length=0
 · refine ⟨0,fun _=>[],.inl h0,?_,?_,?_,?_⟩ <;> rw [h0] <;> simp [leafQs,LeafOk]
 obtain ⟨g,rfl,N⟩:∃ g,a=some ⟨g,0,none⟩∧base≤g:=by
  rcases ho.row.2 with ⟨_,q⟩ | ⟨g,G,T,hv,hg,_⟩
  · omega
  simp only [Value.slice.injEq] at hv;exact ⟨g,hv.1,hg⟩
 have r:=ho.row;rw [hl] at r;have M:g<W.heap.size:=(World.ownsRow.lt r g rfl).2;obtain ⟨SS,u⟩:∃ SS:Nat→List (Addr × IntKind),SS=fun i=>leafN (slBlock (ys.getD i cvZ).2) 0 ((ys.getD i cvZ).1.inds.length*2):=⟨_,rfl⟩
 have s:∀ i m,i<L.length→m<11→W.cell? ⟨g,0+i*11+m,none⟩=(clA (ys.getD i cvZ).1 (ys.getD i cvZ).2).toList[m]?:=by
  intro i m hi H;rw [Nat.zero_add,r.cellAt (i*11+m) (by omega),flatV_get ys i m (by omega) H]
 have t:∀ i,i<L.length→((ys.getD i cvZ).1.inds=[]∧(ys.getD i cvZ).2=.slice none 0 0)∨∃ gi,base≤gi∧(ys.getD i cvZ).2=.slice (some ⟨gi,0,none⟩) 4 4∧(ys.getD i cvZ).1.inds.length=4∧W.rowIs gi 29 (4*2) (cellP (ys.getD i cvZ).1.inds 4):=by
  intro i hi;rcases ho.one i (by omega) with ⟨e1,e2⟩ | ⟨gi,q1,q2,q3,q4⟩
  · exact .inl ⟨e2,e1⟩
  exact .inr ⟨gi,q1,q2,q3,q4⟩
 have F:∀ i,i<L.length→∀ x∈SS i,∃ gi o,base≤gi∧gi<W.heap.size∧x=(⟨gi,o,none⟩,IntKind.i64)∧(ys.getD i cvZ).2.ownBlock=some gi∧(∃ z,W.cell? ⟨gi,o,none⟩=some (.int .i64 z))∧W.frozen? ⟨gi,o,none⟩=false:=by
  intro i hi x hx;rw [u] at hx;rcases t i hi with ⟨e1,e2⟩ | ⟨gi,q1,q2,q3,q4⟩
  · dsimp only at hx;rw [e1] at hx;simp [leafN] at hx
  dsimp only at hx;rw [q3,q2,leafN_mem] at hx;obtain ⟨o,O,rfl⟩:=hx;refine ⟨gi,0+o,q1,q4.lt,rfl,by rw [q2];rfl,?_,q4.frozen _⟩;have hc:=q4.cell (i:=0+o) (by omega);rw [hc];unfold cellP
  split
  · split <;> exact ⟨_,rfl⟩
  exact ⟨_,rfl⟩
 refine ⟨g,SS,.inr ⟨rfl,fun i hi=>?_⟩,?_,?_,?_,?_⟩
 · have h8:=s i 8 hi (by omega);rcases t i hi with ⟨e1,e2⟩ | ⟨gi,q1,q2,q3,q4⟩
   · rw [e2] at h8;exact ⟨none,0,0,0,0,h8,.inl rfl,by rw [u];dsimp only;rw [e1];rfl,by omega⟩
   rw [q2] at h8;exact ⟨_,4,4,gi,0,h8,.inr rfl,by rw [u];dsimp only;rw [q3,q2];rfl,by omega⟩
 · intro x hx;obtain ⟨i,hi,hx⟩:=leafQs_mem hx;rcases leafQ_mem hx with ⟨m,A,I,rfl⟩ | hx
   · refine ⟨?_,r.frozenAt _⟩
     show ∃ z,W.cell? ⟨g,0+i*11+m,none⟩=some (.int .i64 z)
     rw [s i m hi A];rcases (by omega:m=0∨m=1∨m=2∨m=3∨m=4∨m=5∨m=6∨m=7∨m=9∨m=10) with rfl | rfl | rfl | rfl | rfl | rfl | rfl | rfl | rfl | rfl <;> exact ⟨_,rfl⟩
   obtain ⟨gi,o,_,_,rfl,_,hz,hf⟩:=F i hi x hx;exact ⟨hz,hf⟩
 · refine leafQs_nodup (B:=fun i=>(ys.getD i cvZ).2.ownBlock) (fun i hi=>?_) (fun i hi x hx=>?_) (fun i j E hj q hq=>ho.dis i j E (by omega) q hq)
   · rw [u];exact leafN_nodup _ _ _
   obtain ⟨gi,o,_,_,rfl,hb,_,_⟩:=F i hi x hx;refine ⟨hb,fun e=>?_⟩;dsimp only at e;subst e;exact ho.off i (by omega) gi hb rfl
 · intro x hx;obtain ⟨i,hi,hx⟩:=leafQs_mem hx;rcases leafQ_mem hx with ⟨m,A,I,rfl⟩ | hx
   · exact ⟨N,M⟩
   obtain ⟨gi,o,h1,h2,rfl,_⟩:=F i hi x hx;exact ⟨h1,h2⟩
 have R:(leafQs g 0 SS L.length).length≤L.length*18:=leafQs_len (fun i hi=>by
  rw [u];dsimp only;rw [leafN_length];rcases t i hi with ⟨e1,e2⟩ | ⟨gi,q1,q2,q3,q4⟩
  · rw [e1];exact Nat.zero_le _
  rw [q3];omega)
 omega
end

end Go.Proofs.Ytkjmfaohdhiiaaa
