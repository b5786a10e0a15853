/- Several texts in one: ConTell, ConAdd. -/
import Derived.Test.YtnmljalcndfjmaaGreatNG6
import Derived.Test.YtnmljalcndfjmaaGreatNG4
namespace Go.Proofs.YtnmljalcndfjmaaGreat

section
open Go.RowKit Go.Shelf
attribute [local go_sem] Oper.semAt_some
theorem yieldAt_wide {m:Nat} (m':Nat) {P:Program} {l:Nat} {args:Array Value} {W:World} {R:Ending→World→Prop} (h:YieldAt Fence.wide m P l args W R):YieldAt Fence.wide m' P l args W R:=by
 obtain ⟨fn,tmps,assign,body,hy,hR⟩:=h;exact ⟨fn,tmps,assign,body,hy,⟨hR.1,fun c cs _=>hR.2 c cs (fun d h=>by cases h)⟩⟩
structure Item (lo hi:Nat) (w0:World) where
 deep:Nat
 v:Value
 c:CN
 d:Nat
 rd:RdC lo hi w0 d v c
def Item.m {lo hi:Nat} {w0:World} (x:Item lo hi w0):Nat × CN:=(x.deep,x.c)
def encI {lo hi:Nat} {w0:World} (x:Item lo hi w0):Array Value:=#[.int .i64 x.deep,x.v]
def KpC (B n1:Nat) (W W':World):Prop:=Below B W W'∧∀ (b:Nat) (o:Obj),n1≤b→W.heap[b]?=some o→o.isCells=true→W'.heap[b]?=some o
theorem KpC.refl (B n1:Nat) (W:World):KpC B n1 W W:=⟨Below.refl _ _,fun _ _ _ h _=>h⟩
theorem KpC.trans {B n1:Nat} {A C D:World} (h:KpC B n1 A C) (k:KpC B n1 C D):KpC B n1 A D:=⟨h.1.trans k.1,fun b o h1 h2 h3=>k.2 b o h1 (h.2 b o h1 h2 h3) h3⟩
theorem KpC.of_below {B n1:Nat} {W W':World} (h:Below W.heap.size W W') (hB:B≤W.heap.size):KpC B n1 W W':=⟨h.mono hB,fun b _ _ h2 _=>(h.block b (Array.getElem?_eq_some_iff.1 h2).1).trans h2⟩
theorem KpC.putObj {B n1:Nat} (W:World) (l:Nat) (o o':Obj) (hB:B≤l) (hl:W.heap[l]?=some o) (ho:o.isCells=false):KpC B n1 W (W.putObj l o') :=
 ⟨(Below.refl B W).grown (grownBy_putObj' W l o') (by have:=(Array.getElem?_eq_some_iff.1 hl).1;omega) (fun k e=>by cases e;exact hB),fun b o2 _ hb hc=>(World.putObj_heap_other (fun e=>by subst e;rw [hl] at hb;cases hb;rw [ho] at hc;cases hc)).trans hb⟩
theorem abides_below {β:Type} {B:Nat} {J:β→World→Prop} (hJ:AbidesFrom B J) {s:β} {W W':World} (h:J s W) (hb:Below W.heap.size W W'):J s W' :=
 hJ s W W' none h ⟨hb.os,hb.tape,hb.output,hb.size,fun k hk _=>hb.block k hk⟩ (fun r e=>by cases e)
theorem BoxC.kept {B n1:Nat} {W W':World} {b:Nat} {v0 v1 v2 v3:Value} (h:BoxC W b v0 v1 v2 v3) (hk:KpC B n1 W W') (hb:n1≤b):BoxC W' b v0 v1 v2 v3:=hk.2 b _ hb h rfl
def BoxT (W:World) (b:Nat) (k:Int) (na:Option Addr) (nn nc:Nat) (ra:Option Addr) (rn rc:Nat) (ka:Option Addr) (kn kc:Nat):Prop :=
 W.heap[b]?=some (.cells #[.int .i64 k,.slice na nn nc,.slice ra rn rc,.slice ka kn kc,.func (.func 126) #[] #[]] 114 (0,0))
theorem BoxT.cells {W:World} {b:Nat} {k:Int} {na:Option Addr} {nn nc:Nat} {ra:Option Addr} {rn rc:Nat} {ka:Option Addr} {kn kc:Nat} (h:BoxT W b k na nn nc ra rn rc ka kn kc) :
    W.cell? ⟨b,0,none⟩=some (.int .i64 k)∧W.cell? ⟨b,1,none⟩=some (.slice na nn nc)∧W.cell? ⟨b,2,none⟩=some (.slice ra rn rc)∧W.cell? ⟨b,3,none⟩=some (.slice ka kn kc)∧W.cell? ⟨b,4,none⟩=some (.func (.func 126) #[] #[]):=by
 unfold BoxT at h;refine ⟨?_,?_,?_,?_,?_⟩ <;> simp [World.cell?,h]
theorem BoxT.kept {B n1:Nat} {W W':World} {b:Nat} {k:Int} {na:Option Addr} {nn nc:Nat} {ra:Option Addr} {rn rc:Nat} {ka:Option Addr} {kn kc:Nat} (h:BoxT W b k na nn nc ra rn rc ka kn kc) (hk:KpC B n1 W W') (hb:n1≤b):BoxT W' b k na nn nc ra rn rc ka kn kc:=hk.2 b _ hb h rfl
theorem RdC.form4 {lo hi d:Nat} {w:World} {v0 v1 v2 v3:Value} {c:CN} (h:RdC lo hi w d (.agg #[v0,v1,v2,v3]) c):∃ k na nn nc ra rn rc ka kn kc,v0=.int .i64 k∧v1=.slice na nn nc∧v2=.slice ra rn rc∧v3=.slice ka kn kc:=by
 cases d with
 | zero=>exact h.elim
 | succ d =>
  obtain ⟨na,nn,nc,ra,rn,rc,ka,kn,kc,hv,_⟩:=h;simp only [Value.agg.injEq,Array.mk.injEq,List.cons.injEq,and_true] at hv;exact ⟨_,_,_,_,_,_,_,_,_,_,hv.1,hv.2.1,hv.2.2.1,hv.2.2.2⟩
def TellOk (lo hi B n1 N l:Nat) (w0:World) (J Jx:List (Item lo hi w0)→World→Prop) (tk:Int) (ta:Option Addr) (tn tc:Nat) (sa:Option Addr) (sn sc:Nat) (ua:Option Addr) (un uc:Nat) (d:Nat):Prop :=
 ∀ (n deep:Nat) (v:Value) (c:CN) (y:List (Item lo hi w0)) (W:World),RdC lo hi w0 d v c→Below B w0 W→n1≤W.heap.size→J y W→y.length+(parts c deep).length≤N→deep+c.bulk≤1099511627776 →
  CallsIn Fence.wide n Tryz.prog 128 #[.agg #[.int .i64 tk,.slice ta tn tc,.slice sa sn sc,.slice ua un uc,.func (.func 126) #[] #[]],.int .i64 deep,v,.func (.yield l) #[] #[]] W fun e W' =>
   (e=.returned (.bool true)∧(∃ ys,ys.map Item.m=parts c deep∧J (y++ys) W')∧KpC B n1 W W')∨(e=.returned (.bool false)∧∃ q,q.map Item.m <+: parts c deep∧Jx (y++q) W')
set_option maxRecDepth 100000 in
set_option maxHeartbeats 2000000 in
theorem tell_of {lo hi B n1 N l:Nat} {w0:World} {J Jx:List (Item lo hi w0)→World→Prop} {B':Nat} (hJ:AbidesFrom B' J) (E:hi≤B) (G:B≤n1)
    (hY:∀ m y x W,J y W→y.length<N→YieldAt Fence.wide m Tryz.prog l (encI x) W fun e W' =>
     (e=.returned (.bool true)∧J (y++[x]) W'∧KpC B n1 W W')∨(e=.returned (.bool false)∧Jx (y++[x]) W'))
    {tk:Int} {ta:Option Addr} {tn tc:Nat} {sa:Option Addr} {sn sc:Nat} {ua:Option Addr} {un uc:Nat} {d:Nat} (ih:TellOk lo hi B n1 N l w0 J Jx tk ta tn tc sa sn sc ua un uc d):TellOk lo hi B n1 N l w0 J Jx tk ta tn tc sa sn sc ua un uc (d+1):=by
 intro n deep v c y W hR hW F aG hN bh;have V:Hid (RdC lo hi w0 (d+1) v c):=hR;obtain ⟨na,nn,nc,ra,rn,rc,ka,kn,kc,rfl,_,_,hk⟩:=hR;obtain ⟨k,aC⟩:∃ k,k=c.kind:=⟨_,rfl⟩;rw [← aC] at V ⊢;have aO:Hid (c.kids.length=kn):=hk.len;have bf:=hk.fits;have hP:=parts_eq c deep;have a0:=c.bulk_eq;have HP:Hid (parts c deep=(deep,c) :: partsL c.kids (deep+1)):=hP;have b4:Hid (c.bulk=c.name.length+c.role.length+bulks c.kids):=a0;have HN:Hid (y.length+1+(partsL c.kids (deep+1)).length≤N):=by rw [hP] at hN;simp at hN;unfold Hid;omega
 have HK:Hid (RdL (RdC lo hi w0 d) lo hi w0 ka kn kc c.kids):=hk;obtain ⟨W1,U⟩:∃ W1,W1=(W.alloc (.cells #[.int .i64 tk,.slice ta tn tc,.slice sa sn sc,.slice ua un uc,.func (.func 126) #[] #[]] 114)).alloc (.cells #[.int .i64 k,.slice na nn nc,.slice ra rn rc,.slice ka kn kc] 30):=⟨_,rfl⟩;have al:Below W.heap.size W W1:=by rw [U];exact ((Below.refl _ _).alloc (Nat.le_refl _) _).alloc (by simp) _
 have b8:Hid (Below W.heap.size W W1):=al;have b5:Hid (BoxT W1 W.heap.size tk ta tn tc sa sn sc ua un uc):=by unfold Hid;rw [U];exact (Below.heap_alloc _ _ _ (by simp)).trans (World.alloc_heap_new W _)
 have b6:Hid (BoxC W1 (W.heap.size+1) (.int .i64 k) (.slice na nn nc) (.slice ra rn rc) (.slice ka kn kc)):=by unfold Hid;rw [U];have:=BoxC.new (W.alloc (.cells #[.int .i64 tk,.slice ta tn tc,.slice sa sn sc,.slice ua un uc,.func (.func 126) #[] #[]] 114)) (.int .i64 k) (.slice na nn nc) (.slice ra rn rc) (.slice ka kn kc);rwa [World.size_alloc] at this
 have aT:Hid (W1=(W.alloc (.cells #[.int .i64 tk,.slice ta tn tc,.slice sa sn sc,.slice ua un uc,.func (.func 126) #[] #[]] 114)).alloc (.cells #[.int .i64 k,.slice na nn nc,.slice ra rn rc,.slice ka kn kc] 30)):=U;have a6:=abides_below hJ aG al;have a3:=hY (n - 1) y ⟨deep,.agg #[.int .i64 k,.slice na nn nc,.slice ra rn rc,.slice ka kn kc],c,d+1,V.out⟩ W1 a6 (by have:=HN.out;omega);unfold encI at a3;dsimp only at a3;rw [U] at a3;obtain ⟨fn,tmps,assign,body,hy,aD⟩:=a3
 have aM:Hid (RoundIn Fence.wide (n - 1) Tryz.prog l fn tmps assign body ((W.alloc (.cells #[.int .i64 tk,.slice ta tn tc,.slice sa sn sc,.slice ua un uc,.func (.func 126) #[] #[]] 114)).alloc (.cells #[.int .i64 k,.slice na nn nc,.slice ra rn rc,.slice ka kn kc] 30)) fun e W' =>
     (e=.returned (.bool true)∧J (y++[⟨deep,.agg #[.int .i64 k,.slice na nn nc,.slice ra rn rc,.slice ka kn kc],c,d+1,V.out⟩]) W'∧KpC B n1 ((W.alloc (.cells #[.int .i64 tk,.slice ta tn tc,.slice sa sn sc,.slice ua un uc,.func (.func 126) #[] #[]] 114)).alloc (.cells #[.int .i64 k,.slice na nn nc,.slice ra rn rc,.slice ka kn kc] 30)) W')∨(e=.returned (.bool false)∧Jx (y++[⟨deep,.agg #[.int .i64 k,.slice na nn nc,.slice ra rn rc,.slice ka kn kc],c,d+1,V.out⟩]) W')):=aD
 clear aD a6 U al hk aC hP a0 hN aG hY;refine callsIn_of_wp Tryz.func128 rfl trivial ?_ rfl;simp only [Tryz.ntmps128,List.size_toArray,List.length_cons,List.length_nil,Nat.reduceAdd,Nat.reduceSub,Array.replicate_succ,Array.replicate_zero,List.push_toArray,List.append_toArray,List.nil_append,List.cons_append]
 gi_wp2_with fail
 refine ⟨fun h=>(by cases h),?_⟩;refine aM.out.mono ?_;rintro e W2 (⟨rfl,aF,Y⟩ | ⟨rfl,aQ⟩)
 · rw [← aT.out] at Y;have I:=b5.out.kept Y F;have O:=b6.out.kept Y (Nat.le_succ_of_le F);have ax:Hid (BoxT W2 W.heap.size tk ta tn tc sa sn sc ua un uc):=I;have ay:Hid (BoxC W2 (W.heap.size+1) (.int .i64 k) (.slice na nn nc) (.slice ra rn rc) (.slice ka kn kc)):=O;obtain ⟨p0,p1,p2,p3,p4⟩:=I.cells;obtain ⟨q0,q1,q2,q3⟩:=O.cells;have a2:Hid (KpC B n1 W W2):=(KpC.of_below b8.out (Nat.le_trans G F)).trans Y;have b2:Hid (J (y++[⟨deep,.agg #[.int .i64 k,.slice na nn nc,.slice ra rn rc,.slice ka kn kc],c,d+1,V.out⟩]) W2):=aF;have be:W.heap.size+1<W2.heap.size:=ay.out.lt;clear Y I O aF aM hy
   gi_wp2_with fail
   refine ⟨trivial,fun h=>(by cases h),?_⟩;refine (kidsOf_in _ _ _ _ _ _).mono ?_;rintro e W3 ⟨rfl,aB⟩;have a1:Below W2.heap.size W2 W3:=by rw [aB];exact (Below.refl _ _).alloc (Nat.le_refl _) _
   have bd:=a1.size;have ap:Hid (KpC B n1 W W3):=a2.out.trans (KpC.of_below a1 (by have:=a2.out.1.size;omega));have av:Hid (BoxT W3 W.heap.size tk ta tn tc sa sn sc ua un uc):=ax.out.kept (KpC.of_below (B:=0) (n1:=0) a1 (Nat.zero_le _)) (Nat.zero_le _);have aZ:Hid (J (y++[⟨deep,.agg #[.int .i64 k,.slice na nn nc,.slice ra rn rc,.slice ka kn kc],c,d+1,V.out⟩]) W3):=abides_below hJ b2.out a1;clear aB a1 p0 p1 p2 p3 p4 q0 q1 q2 q3
   gi_wp2_with fail
   gi_loopw [21] (fun i wr=>∃ (j:Nat) (ys:List (Item lo hi w0)),j≤kn∧i=.int .i64 j∧ys.map Item.m=(deep,c) :: partsL (c.kids.take j) (deep+1)∧J (y++ys) wr∧KpC B n1 W wr∧BoxT wr W.heap.size tk ta tn tc sa sn sc ua un uc∧W.heap.size+1<wr.heap.size) (fun i _=>kn - (intOf i).toNat)
   case atStart=>exact ⟨0,_,Nat.zero_le _,rfl,by simp [partsL,Item.m],aZ.out,ap.out,av.out,by omega⟩
   case round =>
    obtain ⟨j,ys,hj,rfl,X,an,a4,a8,ba⟩:=hrel;have a9:Hid (ys.map Item.m=(deep,c) :: partsL (c.kids.take j) (deep+1)):=X;have aP:Hid (J (y++ys) wr):=an;have aN:Hid (KpC B n1 W wr):=a4;have b3:Hid (BoxT wr W.heap.size tk ta tn tc sa sn sc ua un uc):=a8;have Z:Below B w0 wr:=hW.trans a4.1;by_cases hlt:j<kn
    · have ak:j<c.kids.length:=by rw [aO.out];exact hlt
      rcases HK.out.cells with hz | ⟨b,off,e1,_,H,hc⟩
      · omega
      subst e1;obtain ⟨v0,v1,v2,v3,aK,aJ,aI,aH,aj⟩:=hc j hlt;have c0:=(Z.cell (p:=⟨b,off+j*4,none⟩) (Nat.lt_of_lt_of_le H E)).trans aK;have c1:=(Z.cell (p:=⟨b,off+j*4+1,none⟩) (Nat.lt_of_lt_of_le H E)).trans aJ;have c2:=(Z.cell (p:=⟨b,off+j*4+2,none⟩) (Nat.lt_of_lt_of_le H E)).trans aI;have c3:=(Z.cell (p:=⟨b,off+j*4+3,none⟩) (Nat.lt_of_lt_of_le H E)).trans aH;obtain ⟨kk,af,ad,ae,ac,aa,ab,ai,ag,ah,rfl,rfl,rfl,rfl⟩:=aj.form4;have aq:Hid (RdC lo hi w0 d (.agg #[.int .i64 kk,.slice af ad ae,.slice ac aa ab,.slice ai ag ah]) (c.kids.getD j CN.zero)):=aj;obtain ⟨p0,p1,p2,p3,p4⟩:=a8.cells;have bg:(j:Int)<(kn:Int):=by omega
      have b9:W.heap.size<wr.heap.size:=by omega
      have HT:Hid (partsL (c.kids.take (j+1)) (deep+1)=partsL (c.kids.take j) (deep+1)++parts (c.kids.getD j CN.zero) (deep+1)):=partsL_take_succ _ _ _ ak;have aL:Hid (partsL c.kids (deep+1)=partsL (c.kids.take (j+1)) (deep+1)++partsL (c.kids.drop (j+1)) (deep+1)):=partsL_take_drop _ _ _;have aR:=getD_bulk_le c.kids j ak;have aU:Hid (deep+1+(c.kids.getD j CN.zero).bulk≤1099511627776):=by have:=b4.out;unfold Hid;omega
      obtain ⟨W4,am⟩:∃ W4,W4=wr.alloc (.cells #[.int .i64 kk,.slice af ad ae,.slice ac aa ab,.slice ai ag ah] 30):=⟨_,rfl⟩;have T:Below wr.heap.size wr W4:=by rw [am];exact (Below.refl _ _).alloc (Nat.le_refl _) _
      have b7:Hid (Below wr.heap.size wr W4):=T;have aS:Hid (W4=wr.alloc (.cells #[.int .i64 kk,.slice af ad ae,.slice ac aa ab,.slice ai ag ah] 30)):=am;have aW:Hid (KpC B n1 W W4):=aN.out.trans (KpC.of_below T (by omega));have au:Hid (BoxT W4 W.heap.size tk ta tn tc sa sn sc ua un uc):=b3.out.kept (KpC.of_below (B:=0) (n1:=0) T (Nat.zero_le _)) (Nat.zero_le _);have aY:Hid (J (y++ys) W4):=abides_below hJ aP.out T;have bc:=T.size
      have ao:Hid ((y++ys).length+(parts (c.kids.getD j CN.zero) (deep+1)).length≤N):=by
       have e1:=congrArg List.length a9.out;have e2:=congrArg List.length HT.out;have e3:=congrArg List.length aL.out;simp only [List.length_map,List.length_cons,List.length_append] at e1 e2 e3;have:=HN.out;unfold Hid;rw [List.length_append];omega
      clear X an a4 a8 hc aj aK aJ aI aH T am aR ak
      gi_wp2_with fail
      rw [← aS.out];refine ⟨trivial,fun h=>(by cases h),?_⟩;refine (ih (n - 1) (deep+1) _ (c.kids.getD j CN.zero) (y++ys) W4 aq.out (Z.trans ?_) (by omega) aY.out ao.out aU.out).mono ?_
      · exact b7.out.mono (by omega)
      rintro e W5 (⟨rfl,⟨zs,az,aE⟩,a5⟩ | ⟨rfl,q,hq,aA⟩)
      · have HE:Hid ((ys++zs).map Item.m=(deep,c) :: partsL (c.kids.take (j+1)) (deep+1)):=by unfold Hid;rw [List.map_append,a9.out,az,HT.out];rfl
        have aX:Hid (J (y++(ys++zs)) W5):=by unfold Hid;rw [← List.append_assoc];exact aE
        have aV:Hid (KpC B n1 W W5):=aW.out.trans a5;have ar:Hid (BoxT W5 W.heap.size tk ta tn tc sa sn sc ua un uc):=au.out.kept a5 F;have bb:=a5.1.size;clear az aE a5
        gi_wp2_with fail
        go_roundw
        case rel=>exact ⟨j+1,_,by omega,by go_num,HE.out,aX.out,aV.out,ar.out,by omega⟩
        case measure=>simp [intOf];omega
      have HQ:Hid ((ys++q).map Item.m <+: parts c deep):=by
       obtain ⟨t,ht⟩:=hq;refine ⟨t++partsL (c.kids.drop (j+1)) (deep+1),?_⟩;rw [HP.out,aL.out,HT.out,← ht,List.map_append,a9.out];simp
      have HX:Hid (Jx (y++(ys++q)) W5):=by unfold Hid;rw [← List.append_assoc];exact aA
      clear hq aA
      gi_wp2_with fail
      go_ret;exact .inr ⟨rfl,_,HQ.out,HX.out⟩
    have HE:Hid (ys.map Item.m=parts c deep):=by unfold Hid;rw [a9.out,HP.out,List.take_of_length_le (by rw [aO.out];omega)]
    clear X an a4 a8
    gi_wp2_with fail
    go_ret;exact .inl ⟨rfl,⟨ys,HE.out,aP.out⟩,aN.out⟩
 gi_wp2_with fail
 go_ret;exact .inr ⟨rfl,_,⟨partsL c.kids (deep+1),by rw [HP.out];rfl⟩,aQ⟩
theorem tell_any {lo hi B n1 N l:Nat} {w0:World} {J Jx:List (Item lo hi w0)→World→Prop} {B':Nat} (hJ:AbidesFrom B' J) (E:hi≤B) (G:B≤n1)
    (hY:∀ m y x W,J y W→y.length<N→YieldAt Fence.wide m Tryz.prog l (encI x) W fun e W' =>
     (e=.returned (.bool true)∧J (y++[x]) W'∧KpC B n1 W W')∨(e=.returned (.bool false)∧Jx (y++[x]) W'))
    {tk:Int} {ta:Option Addr} {tn tc:Nat} {sa:Option Addr} {sn sc:Nat} {ua:Option Addr} {un uc:Nat}:∀ d,TellOk lo hi B n1 N l w0 J Jx tk ta tn tc sa sn sc ua un uc d
 | 0=>fun _ _ _ _ _ _ h=>h.elim
 | d+1=>tell_of hJ E G hY (tell_any hJ E G hY d)
set_option maxHeartbeats 1000000 in
theorem all1_in {lo hi B n1 l:Nat} {w0:World} {J Jx:List (Item lo hi w0)→World→Prop} {B':Nat} (hJ:AbidesFrom B' J) (E:hi≤B) (G:B≤n1) (n Bt:Nat) (c:CN) {d:Nat}
    {k:Int} {na:Option Addr} {nn nc:Nat} {ra:Option Addr} {rn rc:Nat} {ka:Option Addr} {kn kc:Nat} (hR:RdC lo hi w0 d (.agg #[.int .i64 k,.slice na nn nc,.slice ra rn rc,.slice ka kn kc]) c) (a0:c.bulk≤1073741824)
    (hY:∀ m y x W,J y W→y.length<(parts c 1).length→YieldAt Fence.wide m Tryz.prog l (encI x) W fun e W' =>
     (e=.returned (.bool true)∧J (y++[x]) W'∧KpC B n1 W W')∨(e=.returned (.bool false)∧Jx (y++[x]) W'))
    (W:World) (hW:Below B w0 W) (F:n1≤W.heap.size) (a7:BoxT W Bt k na nn nc ra rn rc ka kn kc) (h0:J [] W) :
    CallsIn Fence.wide n Tryz.prog 127 #[.func (.yield l) #[] #[],.pointer (some ⟨Bt,0,none⟩)] W fun e W'=>(∃ v,e=.returned v) ∧
     ((∃ ys,ys.map Item.m=parts c 1∧J ys W')∨(∃ y,y.map Item.m <+: parts c 1∧Jx y W')):=by
 obtain ⟨p0,p1,p2,p3,p4⟩:=a7.cells;have HT:Hid (TellOk lo hi B n1 (parts c 1).length l w0 J Jx k na nn nc ra rn rc ka kn kc d):=tell_any hJ E G hY d;have HR:Hid (RdC lo hi w0 d (.agg #[.int .i64 k,.slice na nn nc,.slice ra rn rc,.slice ka kn kc]) c):=hR;clear hY hR;refine callsIn_of_wp Tryz.func127 rfl trivial ?_ rfl;simp only [Tryz.ntmps127,List.size_toArray,List.length_cons,List.length_nil,Nat.reduceAdd,Nat.reduceSub,Array.replicate_succ,Array.replicate_zero,List.push_toArray,List.append_toArray,List.nil_append,List.cons_append]
 gi_wp2_with fail
 refine ⟨trivial,fun h=>(by cases h),?_⟩;refine (HT.out (n - 1) 1 _ c [] W HR.out hW F h0 (by simp) (by omega)).mono ?_;rintro e W1 (⟨rfl,⟨ys,X,a6⟩,_⟩ | ⟨rfl,q,hq,hx⟩)
 · gi_wp2_with fail
   go_end0;exact ⟨⟨_,rfl⟩,.inl ⟨ys,X,by simpa using a6⟩⟩
 gi_wp2_with fail
 go_end0;exact ⟨⟨_,rfl⟩,.inr ⟨q,hq,by simpa using hx⟩⟩
theorem parts_stops {lo hi B n1:Nat} (n Bt:Nat) {w0 w:World} (E:hi≤B) (G:B≤n1) (c:CN) {d:Nat}
    {k:Int} {na:Option Addr} {nn nc:Nat} {ra:Option Addr} {rn rc:Nat} {ka:Option Addr} {kn kc:Nat} (hR:RdC lo hi w0 d (.agg #[.int .i64 k,.slice na nn nc,.slice ra rn rc,.slice ka kn kc]) c) (a0:c.bulk≤1073741824)
    (hb:Below B w0 w) (F:n1≤w.heap.size) (a7:BoxT w Bt k na nn nc ra rn rc ka kn kc) :
    SeqStopsK Fence.wide n Tryz.prog 127 #[.pointer (some ⟨Bt,0,none⟩)] (encI (lo:=lo) (hi:=hi) (w0:=w0)) (KpC B n1) (fun ys=>ys.map Item.m=parts c 1) (fun y=>y.map Item.m <+: parts c 1) (parts c 1).length w:=fun _ _ _ W hW hJ _ hY h0 =>
 all1_in hJ E G n Bt c hR a0 (fun m y x W hj hl=>yieldAt_wide m (hY y x W hj hl)) W (hb.trans (hW.mono (Nat.le_trans G F))) (Nat.le_trans F hW.size) ((hW.block Bt (Array.getElem?_eq_some_iff.1 a7).1).trans a7) h0
end

section
open Go.RowKit
end

end Go.Proofs.YtnmljalcndfjmaaGreat
