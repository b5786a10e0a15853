/- Several texts in one: AxTextFn, KbTxtS, KbTxtI. -/
import Derived.Test.YtocpeiaolofodaaGreatAxSay
import Derived.Test.YtocpeiaolofodaaGreatAxAdd
import Derived.Test.YtocpeiaolofodaaGreatNG8
import Derived.Test.YtocpeiaolofodaaGreatAxImpl4
import Derived.Test.YtocpeiaolofodaaGreatKbOkFn
namespace Go.Proofs.YtocpeiaolofodaaGreat

section
open Go.RowKit
theorem fldT_byte {dp:Nat} {c0 c1 c2 c3 d0 d1 d2 d3:Value} {ra:Option Addr} {rn rc:Nat} {sa:Option Addr} {sn sc:Nat} {aa:Option Addr} {an ac:Nat} {ba:Option Addr} {bn bc:Nat} {x:AX} {w:World} {lo hi:Nat} (h:RdA lo hi w dp c0 c1 c2 c3 d0 d1 d2 d3 ra rn rc sa sn sc aa an ac ba bn bc x) (f:Nat):∀ y∈fldT x f,0≤y∧y≤255:=by
 intro y hy;unfold fldT at hy
 split at hy
 · exact textC_byte h.c y hy
 split at hy
 · exact textC_byte h.d y hy
 split at hy
 · exact h.r.mem y hy
 split at hy
 · exact h.s.mem y hy
 split at hy
 · exact h.a.mem y hy
 exact h.b.mem y hy
theorem fldsT_byte {dp:Nat} {c0 c1 c2 c3 d0 d1 d2 d3:Value} {ra:Option Addr} {rn rc:Nat} {sa:Option Addr} {sn sc:Nat} {aa:Option Addr} {an ac:Nat} {ba:Option Addr} {bn bc:Nat} {x:AX} {w:World} {lo hi:Nat} (h:RdA lo hi w dp c0 c1 c2 c3 d0 d1 d2 d3 ra rn rc sa sn sc aa an ac ba bn bc x):∀ (fs:List Nat) (E:Int),0≤E∧E≤255→∀ y∈fldsT x E fs,0≤y∧y≤255
 | [],_,_,y,hy=>by simp [fldsT] at hy
 | f :: fs,E,hg,y,hy=>by
  simp only [fldsT,List.mem_append,List.mem_singleton] at hy;rcases hy with (rfl | hy) | hy
  · exact hg
  · exact fldT_byte h f y hy
  exact fldsT_byte h fs 32 (by omega) y hy
theorem axText_byte {dp:Nat} {c0 c1 c2 c3 d0 d1 d2 d3:Value} {ra:Option Addr} {rn rc:Nat} {sa:Option Addr} {sn sc:Nat} {aa:Option Addr} {an ac:Nat} {ba:Option Addr} {bn bc:Nat} {x:AX} {w:World} {lo hi:Nat} (h:RdA lo hi w dp c0 c1 c2 c3 d0 d1 d2 d3 ra rn rc sa sn sc aa an ac ba bn bc x):∀ i,0≤(axText x).getD i 0∧(axText x).getD i 0≤255:=by
 intro i;by_cases hi:i<(axText x).length
 · have:∀ y∈axText x,0≤y∧y≤255:=by
    intro y hy;unfold axText at hy
    split at hy
    · unfold axSay at hy;simp only [List.mem_append,List.mem_singleton] at hy;rcases hy with (hy | hy) | hy
      · exact axWord_byte _ y hy
      · exact fldsT_byte h _ 40 (by omega) y hy
      omega
    simp at hy
   have:=this _ (List.getElem_mem hi);simpa [List.getD,hi] using this
 rw [List.getD,List.getElem?_eq_none (by omega)];simp
theorem fitL_len {zs:List Int} {wt:Bool} (h:fitL zs wt=true):zs.length≤6:=by
 unfold fitL at h
 split at h
 · exact (longB_of_low h).2
 have:=of_decide_eq_true h;omega
theorem fldT_len {x:AX} (h:axOk x=true) (f:Nat):(fldT x f).length≤320:=by
 obtain ⟨_,hC,hD,hR,hS,hA,hB⟩:=axOk_facts h;have h1:=textC_320 (fitC_ok hC);have h2:=textC_320 (fitC_ok hD);have h3:=fitL_len hR;have h4:=fitL_len hS;have h5:=fitL_len hA;have h6:=fitL_len hB;unfold fldT
 repeat' split
 all_goals omega
theorem fldsT_len {x:AX} (h:axOk x=true):∀ (fs:List Nat) (E:Int),(fldsT x E fs).length≤321*fs.length
 | [],_=>by simp [fldsT]
 | f :: fs,E=>by
  have h1:=fldT_len h f;have h2:=fldsT_len h fs 32;simp only [fldsT,List.length_append,List.length_cons,List.length_nil];omega
theorem axText_len (x:AX):(axText x).length≤1000:=by
 unfold axText
 split
 · rename_i h
   have h1:=fldsT_len h (fieldsN x.kind) 40;have h2:=axWord_len x.kind
   have h3:(fieldsN x.kind).length≤3:=by
    unfold fieldsN
    repeat' split
    all_goals simp
   unfold axSay;simp only [List.length_append,List.length_cons,List.length_nil];omega
 simp
theorem l3say_any {dp:Nat} {c0 c1 c2 c3 d0 d1 d2 d3:Value} {ra:Option Addr} {rn rc:Nat} {sa:Option Addr} {sn sc:Nat} {aa:Option Addr} {an ac:Nat} {ba:Option Addr} {bn bc:Nat} {x:AX} {w:World} {lo hi:Nat} {base:Nat} {bv:Value} {xs:List Int} (h:RdA lo hi w dp c0 c1 c2 c3 d0 d1 d2 d3 ra rn rc sa sn sc aa an ac ba bn bc x) (D:hi≤base) (j:base≤w.heap.size) (A:axOk x=true) (k:Int) (hk:k=x.kind) (hO:OwnB base w bv xs) (z:xs.length≤536870912) :
    Calls Tryz.prog 53 #[bv,.agg #[.int .i64 k,c0,c1,c2,c3,d0,d1,d2,d3,.slice ra rn rc,.slice sa sn sc,.slice aa an ac,.slice ba bn bc]] w fun e w'=>∃ bv',e=.returned bv'∧OwnB base w' bv' (xs++axSay x)∧Keep5 base w w':=by
 have hr:=(axOk_facts A).1;have hc:k=0∨k=1∨k=2∨k=3∨k=4∨k=5:=by omega
 rcases hc with rfl | rfl | rfl | rfl | rfl | rfl
 · exact (l3say_g h D j A 0 (by omega) hk.symm hO z).mono (fun e w' ⟨b,h1,h2,h3⟩=>⟨b,h1,h2,h3.k5⟩)
 · exact (l3say_g h D j A 1 (by omega) hk.symm hO z).mono (fun e w' ⟨b,h1,h2,h3⟩=>⟨b,h1,h2,h3.k5⟩)
 · exact (l3say_g h D j A 2 (by omega) hk.symm hO z).mono (fun e w' ⟨b,h1,h2,h3⟩=>⟨b,h1,h2,h3.k5⟩)
 · exact (l3say_3 h D j A hk.symm hO z).mono (fun e w' ⟨b,h1,h2,h3⟩=>⟨b,h1,h2,h3.k5⟩)
 · exact (l3say_4 h D j A hk.symm hO z).mono (fun e w' ⟨b,h1,h2,h3⟩=>⟨b,h1,h2,h3.k5⟩)
 exact (l3say_5 h D j A hk.symm hO z).mono (fun e w' ⟨b,h1,h2,h3⟩=>⟨b,h1,h2,h3.k5⟩)
theorem addAx_any {dp:Nat} {c0 c1 c2 c3 d0 d1 d2 d3:Value} {ra:Option Addr} {rn rc:Nat} {sa:Option Addr} {sn sc:Nat} {aa:Option Addr} {an ac:Nat} {ba:Option Addr} {bn bc:Nat} {x:AX} {w:World} {lo hi:Nat} {base:Nat} {bv:Value} {xs:List Int} (h:RdA lo hi w dp c0 c1 c2 c3 d0 d1 d2 d3 ra rn rc sa sn sc aa an ac ba bn bc x) (D:hi≤base) (j:base≤w.heap.size) (A:axOk x=true) (k:Int) (hk:k=x.kind) (hO:OwnB base w bv xs) (z:xs.length≤536870912) :
    Calls Tryz.prog 16 #[bv,.agg #[.int .i64 k,c0,c1,c2,c3,d0,d1,d2,d3,.slice ra rn rc,.slice sa sn sc,.slice aa an ac,.slice ba bn bc]] w fun e w'=>∃ bv',e=.returned bv'∧OwnB base w' bv' (xs++axSay x)∧Keep5 base w w':=by
 have hr:=(axOk_facts A).1;have hc:k=0∨k=1∨k=2∨k=3∨k=4∨k=5:=by omega
 rcases hc with rfl | rfl | rfl | rfl | rfl | rfl
 · exact addAx_g h D j A 0 (by omega) hk.symm hO z
 · exact addAx_g h D j A 1 (by omega) hk.symm hO z
 · exact addAx_g h D j A 2 (by omega) hk.symm hO z
 · exact addAx_3 h D j A hk.symm hO z
 · exact addAx_4 h D j A hk.symm hO z
 exact addAx_5 h D j A hk.symm hO z
set_option maxRecDepth 100000 in
set_option maxHeartbeats 2000000 in
theorem implAxText_any {dp:Nat} {c0 c1 c2 c3 d0 d1 d2 d3:Value} {ra:Option Addr} {rn rc:Nat} {sa:Option Addr} {sn sc:Nat} {aa:Option Addr} {an ac:Nat} {ba:Option Addr} {bn bc:Nat} {x:AX} {w:World} {lo hi:Nat} (h:RdA lo hi w dp c0 c1 c2 c3 d0 d1 d2 d3 ra rn rc sa sn sc aa an ac ba bn bc x) (D:hi≤w.heap.size) (T:x.c.bulk≤1048576) (O:x.d.bulk≤1048576) (k:Int) (hk:k=x.kind) :
    Calls Tryz.prog 13 #[.agg #[.int .i64 k,c0,c1,c2,c3,d0,d1,d2,d3,.slice ra rn rc,.slice sa sn sc,.slice aa an ac,.slice ba bn bc]] w fun e w'=>∃ v',e=.returned v'∧OwnB w.heap.size w' v' (axText x)∧Below w.heap.size w w':=by
 obtain ⟨W0,G⟩:∃ W0,W0=w.alloc (.cells #[.int .i64 k,c0,c1,c2,c3,d0,d1,d2,d3,.slice ra rn rc,.slice sa sn sc,.slice aa an ac,.slice ba bn bc] 39):=⟨_,rfl⟩;have a7:Hid (W0=w.alloc (.cells #[.int .i64 k,c0,c1,c2,c3,d0,d1,d2,d3,.slice ra rn rc,.slice sa sn sc,.slice aa an ac,.slice ba bn bc] 39)):=G;have U:Below w.heap.size w W0:=by rw [G];exact (Below.refl _ _).alloc (Nat.le_refl _) _
 have a4:Hid (Below w.heap.size w W0):=U;have a1:Hid (RdA lo hi w dp c0 c1 c2 c3 d0 d1 d2 d3 ra rn rc sa sn sc aa an ac ba bn bc x):=h;have F:BoxA 39 W0 w.heap.size k c0 c1 c2 c3 d0 d1 d2 d3 (.slice ra rn rc) (.slice sa sn sc) (.slice aa an ac) (.slice ba bn bc):=by rw [G];exact BoxA.new _ w _ _ _ _ _ _ _ _ _ _ _ _ _
 have a9:Hid (BoxA 39 W0 w.heap.size k c0 c1 c2 c3 d0 d1 d2 d3 (.slice ra rn rc) (.slice sa sn sc) (.slice aa an ac) (.slice ba bn bc)):=F;have a2:Hid (k=x.kind):=hk;have a3:Hid (x.c.bulk≤1048576∧x.d.bulk≤1048576):=⟨T,O⟩;have a6:w.heap.size<W0.heap.size:=F.lt;obtain ⟨ok,A⟩:∃ ok,ok=axOk x:=⟨_,rfl⟩;have H:Hid (ok=axOk x):=A;obtain ⟨b0,b1,b2,b3,b4,b5,b6,b7,b8,b9,a0,Z,Y⟩:=F.cells;clear h U G F A hk T O;go_enter Tryz.func13, Tryz.ntmps13;go_upto_region 1 with fail;rw [← a7.out];go_wp2_with fail;refine (implAxiomOk_any (a1.out.below a4.out D) (by omega) a3.out.1 a3.out.2 k a2.out).mono ?_;rintro e w1 ⟨rfl,J⟩;rw [← H.out];have I:Hid (Below w.heap.size w w1):=a4.out.trans (J.mono (by omega));have N:Hid (BoxA 39 w1 w.heap.size k c0 c1 c2 c3 d0 d1 d2 d3 (.slice ra rn rc) (.slice sa sn sc) (.slice aa an ac) (.slice ba bn bc)):=a9.out.below J a6;have a5:=I.out.size;clear J b0 b1 b2 b3 b4 b5 b6 b7 b8 b9 a0 Z Y;obtain ⟨b0,b1,b2,b3,b4,b5,b6,b7,b8,b9,a0,Z,Y⟩:=N.out.cells;cases ok with
 | false =>
  have HE:Hid (axText x=[]):=by unfold Hid axText;rw [← H.out];rfl
  go_wp2_with fail;go_ret;exact ⟨_,rfl,by rw [HE.out];exact OwnB.nil _ _,I.out⟩
 | true =>
  have HE:Hid (axText x=axSay x):=by unfold Hid axText;rw [← H.out];rfl
  go_wp2_with fail;refine (addAx_any (bv:=.slice none 0 0) (xs:=[]) (a1.out.below I.out D) D a5 H.out.symm k a2.out (OwnB.nil _ _) (by simp)).mono ?_;rintro e w2 ⟨v2,rfl,V,X⟩;have a8:Hid (OwnB w.heap.size w2 v2 (axSay x)):=by unfold Hid;simpa using V
  have ab:Hid (Below w.heap.size w w2):=I.out.trans X.1;clear V X;go_wp2_with fail;go_ret;exact ⟨_,rfl,by rw [HE.out];exact a8.out,ab.out⟩
end

section
open Go.RowKit
def textK:List AX→List Int
 | []=>[]
 | x :: xs=>axSay x++[10]++textK xs
theorem textK_append (xs ys:List AX):textK (xs++ys)=textK xs++textK ys:=by
 induction xs with
 | nil=>rfl
 | cons x xs ih=>simp [textK,ih]
theorem textK_take (xs:List AX) (k:Nat) (h:k<xs.length):textK (xs.take (k+1))=textK (xs.take k)++axSay (xs.getD k AX.zero)++[10]:=by
 rw [take_succ_getD xs AX.zero k h,textK_append];simp [textK]
theorem axSay_len {x:AX} (h:axOk x=true):(axSay x).length≤1000:=by
 have:=axText_len x;unfold axText at this;rw [if_pos h] at this;exact this
theorem textK_len {xs:List AX} (h:∀ x∈xs,axOk x=true):(textK xs).length≤1001*xs.length:=by
 induction xs with
 | nil=>simp [textK]
 | cons x xs ih =>
  have h1:=axSay_len (h x (by simp));have h2:=ih (fun y hy=>h y (by simp [hy]));simp only [textK,List.length_append,List.length_cons,List.length_nil];omega
theorem ownB_mono {base base':Nat} {w:World} {v:Value} {zs:List Int} (h:OwnB base w v zs) (hb:base'≤base):OwnB base' w v zs:=by
 obtain ⟨r1,r2⟩:=h;refine ⟨r1,?_⟩;rcases r2 with r2 | ⟨g,A,cur,hv,hg,r⟩
 · exact .inl r2
 exact .inr ⟨g,A,cur,hv,Nat.le_trans hb hg,r⟩
set_option maxRecDepth 100000 in
set_option maxHeartbeats 2000000 in
theorem l3text_any {a:Option Addr} {n A:Nat} {xs:List AX} {dp:Nat} {w:World} {lo hi:Nat} (h:RdK lo hi w dp a n A xs) (X:hi≤w.heap.size) (V:∀ x∈xs,axOk x=true) (ax:n≤8) :
    Calls Tryz.prog 25 #[.agg #[.slice a n A]] w fun e w'=>∃ v,e=.returned v∧OwnB w.heap.size w' v (textK xs)∧Below w.heap.size w w':=by
 obtain ⟨W0,F⟩:∃ W0,W0=w.alloc (.cells #[.slice a n A] 25):=⟨_,rfl⟩;have al:Hid (W0=w.alloc (.cells #[.slice a n A] 25)):=F;have I:w.heap.size<W0.heap.size:=by rw [F];simp
 have O:Below w.heap.size w W0:=by rw [F];exact (Below.refl _ _).alloc (Nat.le_refl _) _
 have aq:Hid (Below w.heap.size w W0):=O;have T:Hid (Boxed W0 w.heap.size 25 (.slice a n A)):=by unfold Hid;rw [F];exact Boxed.new w _ _
 have HK:Hid (RdK lo hi W0 dp a n A xs):=h.below O X;have HL:Hid (xs.length=n):=h.len;have a3:Hid (∀ x∈xs,axOk x=true):=V;have hf:=h.fits;obtain ⟨j0,ai,ae,ad,ab⟩:=info_parts Tryz.info5;clear h O V F;go_enter Tryz.func25, Tryz.ntmps25;go_wp2_with fail;rw [← al.out];go_loopw [3,4] (fun l i wr=>∃ (j:Nat) (ov:Value),j≤n∧i=.int .i64 j∧ov=l∧OwnB W0.heap.size wr ov (textK (xs.take j))∧Below W0.heap.size W0 wr) (fun _ i _=>n - (intOf i).toNat)
 case atStart=>exact ⟨0,_,Nat.zero_le _,rfl,rfl,OwnB.nil _ _,Below.refl _ _⟩
 case round =>
  obtain ⟨j,ov,hj,rfl,rfl,hO,z⟩:=hrel;have HO:Hid (OwnB W0.heap.size wr ov (textK (xs.take j))):=hO;have HB:Hid (Below W0.heap.size W0 wr):=z;have G:Boxed wr w.heap.size 25 (.slice a n A):=(z.block _ I).trans T.out;have cB:=G.cell;clear G;have af:=z.size
  have a0:Hid ((textK (xs.take j)).length≤8008):=by
   have h1:=textK_len (xs:=xs.take j) (fun x hx=>a3.out x (List.mem_of_mem_take hx));have h2:(xs.take j).length≤8:=by rw [List.length_take];omega
   unfold Hid;omega
  by_cases hlt:j<n
  · have N:j<xs.length:=by rw [HL.out];exact hlt
    have hK:=HK.out.below z (by omega);rcases hK.cells with hz | ⟨b,off,e1,ar,au,hc⟩
    · omega
    subst e1;obtain ⟨c0,c1,c2,c3,d0,d1,d2,d3,ra,rn,rc,sa,sn,sc,aa,an,ac,ba,bn,bc,q0,q1,q2,q3,q4,q5,q6,q7,q8,q9,a9,a8,a7,U⟩:=hc j hlt;have a2:Hid (RdA lo hi wr dp c0 c1 c2 c3 d0 d1 d2 d3 ra rn rc sa sn sc aa an ac ba bn bc (xs.getD j AX.zero)):=U;have a1:Hid (textK (xs.take (j+1))=textK (xs.take j)++axSay (xs.getD j AX.zero)++[10]):=textK_take xs j N;have D:axOk (xs.getD j AX.zero)=true:=a3.out _ (by rw [List.getD_eq_getElem?_getD,List.getElem?_eq_getElem N];exact List.getElem_mem N);have ay:(j:Int)<(n:Int):=by omega
    obtain ⟨x,hx⟩:∃ x,x=xs.getD j AX.zero:=⟨_,rfl⟩;rw [← hx] at a2 D a1 q0;have av:=axSay_len D;have am:Hid (axOk x=true):=D;obtain ⟨kk,J⟩:∃ kk,kk=x.kind:=⟨_,rfl⟩;rw [← J] at q0;have ap:Hid (kk=x.kind):=J;clear hK hc U hO z hx J D;go_wp2_with fail;refine (l3say_any a2.out (Nat.le_trans X (Nat.le_of_lt I)) af am.out kk ap.out HO.out (by have:=a0.out;omega)).mono ?_;rintro e w1 ⟨v1,rfl,Y,Z⟩;have a4:Hid (OwnB W0.heap.size w1 v1 (textK (xs.take j)++axSay x)):=Y;have a5:Hid (Below W0.heap.size W0 w1):=HB.out.trans Z.1;have ag:=a5.out.size;have ah:(textK (xs.take j)++axSay x).length≤9008:=by have:=a0.out;rw [List.length_append];omega
    obtain ⟨m,hm⟩:∃ m,m=(textK (xs.take j)++axSay x).length:=⟨_,rfl⟩;have HM:Hid (m=(textK (xs.take j)++axSay x).length):=hm;rw [← hm] at ah
    have ao:Hid ((w1.alloc (.cells #[.int .u8 10] 5)).ownsRow W0.heap.size 5 1 v1 m ((textK (xs.take j)++axSay x).map (Value.int .u8))):=by
     have:=(a4.out.below ((Below.refl w1.heap.size w1).alloc (Nat.le_refl _) (.cells #[.int .u8 10] 5)) (Nat.le_refl _));unfold OwnB at this;rw [← hm] at this;exact this
    clear Y Z q0 q1 q2 q3 q4 q5 q6 q7 q8 q9 a9 a8 a7 cB hm
    go_wp2_with (first
     | (at_builtin;refine wpList_append_own _ rfl (.tmp 18) (.tmp 19) 22 rfl W0.heap.size 5 j0 (.int .u8 0) 1 1 Tryz.underlying22 ai ae ad ab rfl (by decide) v1 m ((textK (xs.take j)++axSay x).map (Value.int .u8)) rfl ao.out ⟨w1.heap.size,0,none⟩ 1 1 [.int .u8 10] rfl rfl (cell_one_new _ _ _) (by simp [Value.oneCell']) (by unfold maxLen;omega) (by omega) (by simp;omega) ?_;intro v3 w3 H E a6) | fail)
    go_roundw
    case rel =>
     have ak:OwnB W0.heap.size (w1.alloc (.cells #[.int .u8 10] 5)) v1 (textK (xs.take j)++axSay x):=a4.out.below ((Below.refl w1.heap.size w1).alloc (Nat.le_refl _) _) (Nat.le_refl _);have aj:Below W0.heap.size W0 w3:=(a5.out.alloc ag _).grown E (by simp;omega) (fun g hg=>(World.ownsRow.lt ak g hg).1);refine ⟨j+1,v3,by omega,by go_num,rfl,?_,aj⟩;rw [a1.out];unfold OwnB;have e:(textK (xs.take j)++axSay x++[10]).length=m+1:=by rw [List.length_append,← HM.out];rfl
     rw [e,List.map_append];exact H
    case measure=>simp [intOf];omega
  have HE:Hid (textK xs=textK (xs.take j)):=by unfold Hid;rw [List.take_of_length_le (by rw [HL.out];omega)]
  clear z hO;go_wp2_with fail;go_ret;exact ⟨ov,rfl,by rw [HE.out];exact ownB_mono HO.out (Nat.le_of_lt I),aq.out.trans (HB.out.mono (Nat.le_of_lt I))⟩
end

section
open Go.RowKit
def kbText (xs:List AX):List Int:=if kbB xs=true then textK xs else []
theorem kbB_ok {xs:List AX} (h:kbB xs=true):xs.length≤8∧∀ x∈xs,axOk x=true:=by
 unfold kbB at h;simp only [Bool.and_eq_true] at h;exact ⟨of_decide_eq_true h.1,List.all_eq_true.1 h.2.1⟩
set_option maxRecDepth 100000 in
set_option maxHeartbeats 4000000 in
theorem implKbText_any {a:Option Addr} {n D:Nat} {xs:List AX} {dp:Nat} {w:World} {lo hi:Nat} (h:RdK lo hi w dp a n D xs) (aL:hi≤w.heap.size) (ak:∀ x∈xs,x.c.bulk≤1048576∧x.d.bulk≤1048576) :
    Calls Tryz.prog 5 #[.agg #[.slice a n D]] w fun e w'=>∃ v,e=.returned v∧OwnB w.heap.size w' v (kbText xs)∧Below w.heap.size w w':=by
 obtain ⟨W0,I⟩:∃ W0,W0=w.alloc (.cells #[.slice a n D] 25):=⟨_,rfl⟩;have aO:Hid (W0=w.alloc (.cells #[.slice a n D] 25)):=I;have aj:w.heap.size<W0.heap.size:=by rw [I];simp
 have ai:Below w.heap.size w W0:=by rw [I];exact (Below.refl _ _).alloc (Nat.le_refl _) _
 have aY:Hid (Below w.heap.size w W0):=ai;have N:Hid (Boxed W0 w.heap.size 25 (.slice a n D)):=by unfold Hid;rw [I];exact Boxed.new w _ _
 have HK:Hid (RdK lo hi W0 dp a n D xs):=h.below ai aL;have HL:Hid (xs.length=n):=h.len;have hf:=h.fits;have aX:Hid (∀ x∈xs,x.c.bulk≤1048576∧x.d.bulk≤1048576):=ak;obtain ⟨j0,aK,aG,aF,aE⟩:=info_parts Tryz.info5;have z0:=N.out.cell;clear h ai I ak;go_enter Tryz.func5, Tryz.ntmps5;go_wp2_with fail;rw [← aO.out];refine (implKbOk_any HK.out (by omega) aX.out).mono ?_;rintro e w1 ⟨rfl,H⟩;have H1:Hid (Below W0.heap.size W0 w1):=H;have af:Hid (Below w.heap.size w w1):=aY.out.trans (H.mono (Nat.le_of_lt aj));have J:Boxed w1 w.heap.size 25 (.slice a n D):=(H.block _ aj).trans N.out;have b5:=H.size;clear H z0;have z0:=J.cell;clear J;cases hok:kbB xs
 · have HE:Hid (kbText xs=[]):=by unfold Hid kbText;rw [hok];rfl
   go_wp2_with fail;go_ret;exact ⟨_,rfl,by rw [HE.out];exact OwnB.nil _ _,af.out⟩
 have HE:Hid (kbText xs=textK xs):=by unfold Hid kbText;rw [hok];rfl
 have ar:Hid (∀ x∈xs,axOk x=true):=(kbB_ok hok).2;have b6:n≤8:=by rw [← HL.out];exact (kbB_ok hok).1
 go_wp2_with fail;go_loopw [3,12] (fun l i wr=>∃ (j:Nat) (ov:Value),j≤n∧i=.int .i64 j∧ov=l∧OwnB w1.heap.size wr ov (textK (xs.take j))∧Below w1.heap.size w1 wr) (fun _ i _=>n - (intOf i).toNat)
 case atStart=>exact ⟨0,_,Nat.zero_le _,rfl,rfl,OwnB.nil _ _,Below.refl _ _⟩
 case round =>
  obtain ⟨j,ov,hj,rfl,rfl,hO,z⟩:=hrel;have HO:Hid (OwnB w1.heap.size wr ov (textK (xs.take j))):=hO;have HB:Hid (Below w1.heap.size w1 wr):=z;have aH:=z.size
  have ap:Hid ((textK (xs.take j)).length≤8008):=by
   have h1:=textK_len (xs:=xs.take j) (fun x hx=>ar.out x (List.mem_of_mem_take hx));have h2:(xs.take j).length≤8:=by rw [List.length_take];omega
   unfold Hid;omega
  by_cases hlt:j<n
  · have ah:j<xs.length:=by rw [HL.out];exact hlt
    have hK:=(HK.out.below H1.out (by omega)).below z (by omega);rcases hK.cells with hz | ⟨b,off,e1,aZ,b2,hc⟩
    · omega
    subst e1;obtain ⟨c0,c1,c2,c3,d0,d1,d2,d3,ra,rn,rc,sa,sn,sc,aa,an,ac,ba,bn,bc,q0,q1,q2,q3,q4,q5,q6,q7,q8,q9,aA,az,ay,G⟩:=hc j hlt;obtain ⟨ek,ae,ab,ad,a9,a7,a8,a6,a4,a5,rfl,rfl,rfl,rfl⟩:=G.c.sh.form;obtain ⟨fk,a3,a1,a2,a0,Y,Z,X,U,V,rfl,rfl,rfl,rfl⟩:=G.d.sh.form;have aq:Hid (textK (xs.take (j+1))=textK (xs.take j)++axSay (xs.getD j AX.zero)++[10]):=textK_take xs j ah;have A:axOk (xs.getD j AX.zero)=true:=ar.out _ (by rw [List.getD_eq_getElem?_getD,List.getElem?_eq_getElem ah];exact List.getElem_mem ah);have b7:(j:Int)<(n:Int):=by omega
    obtain ⟨x,hx⟩:∃ x,x=xs.getD j AX.zero:=⟨_,rfl⟩;rw [← hx] at G A aq q0;have b4:=axSay_len A;have aR:Hid (axOk x=true):=A;obtain ⟨kk,ag⟩:∃ kk,kk=x.kind:=⟨_,rfl⟩;rw [← ag] at q0;have aU:Hid (kk=x.kind):=ag;obtain ⟨v0,F⟩:∃ v0,v0=wr.alloc (.cells #[.int .i64 kk,.int .i64 ek,.slice ae ab ad,.slice a9 a7 a8,.slice a6 a4 a5,.int .i64 fk,.slice a3 a1 a2,.slice a0 Y Z,.slice X U V,.slice ra rn rc,.slice sa sn sc,.slice aa an ac,.slice ba bn bc] 39):=⟨_,rfl⟩;have aP:Hid (v0=wr.alloc (.cells #[.int .i64 kk,.int .i64 ek,.slice ae ab ad,.slice a9 a7 a8,.slice a6 a4 a5,.int .i64 fk,.slice a3 a1 a2,.slice a0 Y Z,.slice X U V,.slice ra rn rc,.slice sa sn sc,.slice aa an ac,.slice ba bn bc] 39)):=F;have T:Below wr.heap.size wr v0:=by rw [F];exact (Below.refl _ _).alloc (Nat.le_refl _) _
    have b3:wr.heap.size<v0.heap.size:=by rw [F];simp
    have aW:Hid (Below w1.heap.size w1 v0):=HB.out.trans (T.mono aH);have ao:BoxA 39 v0 wr.heap.size kk (.int .i64 ek) (.slice ae ab ad) (.slice a9 a7 a8) (.slice a6 a4 a5) (.int .i64 fk) (.slice a3 a1 a2) (.slice a0 Y Z) (.slice X U V) (.slice ra rn rc) (.slice sa sn sc) (.slice aa an ac) (.slice ba bn bc):=by rw [F];exact BoxA.new _ wr _ _ _ _ _ _ _ _ _ _ _ _ _
    have aQ:Hid (RdA lo hi v0 dp (.int .i64 ek) (.slice ae ab ad) (.slice a9 a7 a8) (.slice a6 a4 a5) (.int .i64 fk) (.slice a3 a1 a2) (.slice a0 Y Z) (.slice X U V) ra rn rc sa sn sc aa an ac ba bn bc x):=G.below T (by omega);have aS:Hid (OwnB w1.heap.size v0 ov (textK (xs.take j))):=HO.out.below T (Nat.le_refl _);obtain ⟨m0,m1,m2,m3,m4,m5,m6,m7,m8,m9,aD,aC,aB⟩:=ao.cells;clear hK hc G hO z hx ag A F T ao;go_wp2_with fail;rw [← aP.out];refine (addAx_any aQ.out (by omega) (by omega) aR.out kk aU.out aS.out (by have:=ap.out;omega)).mono ?_;rintro e w2 ⟨v1,rfl,al,am⟩;have au:Hid (OwnB w1.heap.size w2 v1 (textK (xs.take j)++axSay x)):=al;have av:Hid (Below w1.heap.size w1 w2):=aW.out.trans am.1;have aI:=av.out.size;have aJ:(textK (xs.take j)++axSay x).length≤9008:=by have:=ap.out;rw [List.length_append];omega
    obtain ⟨m,hm⟩:∃ m,m=(textK (xs.take j)++axSay x).length:=⟨_,rfl⟩;have HM:Hid (m=(textK (xs.take j)++axSay x).length):=hm;rw [← hm] at aJ
    have aT:Hid ((w2.alloc (.cells #[.int .u8 10] 5)).ownsRow w1.heap.size 5 1 v1 m ((textK (xs.take j)++axSay x).map (Value.int .u8))):=by
     have:=(au.out.below ((Below.refl w2.heap.size w2).alloc (Nat.le_refl _) (.cells #[.int .u8 10] 5)) (Nat.le_refl _));unfold OwnB at this;rw [← hm] at this;exact this
    clear al am q0 q1 q2 q3 q4 q5 q6 q7 q8 q9 aA az ay m0 m1 m2 m3 m4 m5 m6 m7 m8 m9 aD aC aB hm
    go_wp2_with (first
     | (at_builtin;refine wpList_append_own _ rfl (.tmp 18) (.tmp 19) 22 rfl w1.heap.size 5 j0 (.int .u8 0) 1 1 Tryz.underlying22 aK aG aF aE rfl (by decide) v1 m ((textK (xs.take j)++axSay x).map (Value.int .u8)) rfl aT.out ⟨w2.heap.size,0,none⟩ 1 1 [.int .u8 10] rfl rfl (cell_one_new _ _ _) (by simp [Value.oneCell']) (by unfold maxLen;omega) (by omega) (by simp;omega) ?_;intro v3 w3 O E ax) | fail)
    go_roundw
    case rel =>
     have aN:OwnB w1.heap.size (w2.alloc (.cells #[.int .u8 10] 5)) v1 (textK (xs.take j)++axSay x):=au.out.below ((Below.refl w2.heap.size w2).alloc (Nat.le_refl _) _) (Nat.le_refl _);have aM:Below w1.heap.size w1 w3:=(av.out.alloc aI _).grown E (by simp;omega) (fun g hg=>(World.ownsRow.lt aN g hg).1);refine ⟨j+1,v3,by omega,by go_num,rfl,?_,aM⟩;rw [aq.out];unfold OwnB;have e:(textK (xs.take j)++axSay x++[10]).length=m+1:=by rw [List.length_append,← HM.out];rfl
     rw [e,List.map_append];exact O
    case measure=>simp [intOf];omega
  have aV:Hid (textK xs=textK (xs.take j)):=by unfold Hid;rw [List.take_of_length_le (by rw [HL.out];omega)]
  clear z hO;go_wp2_with fail;go_ret;exact ⟨ov,rfl,by rw [HE.out,aV.out];exact ownB_mono HO.out af.out.size,af.out.trans (HB.out.mono af.out.size)⟩
end

end Go.Proofs.YtocpeiaolofodaaGreat
