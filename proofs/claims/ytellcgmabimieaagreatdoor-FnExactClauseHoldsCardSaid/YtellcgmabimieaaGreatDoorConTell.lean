/- The iterator over the parts of a concept: all parts in order, each with its depth, or a first part of them where the loop says 'no more'. -/
import Derived.Test.YtellcgmabimieaaGreatDoorNG6
namespace Go.Proofs.YtellcgmabimieaaGreatDoor
open Go.RowKit Go.Shelf
attribute [local go_sem] Oper.semAt_some
theorem yieldAt_wide {m:Nat} (m':Nat) {P:Program} {l:Nat} {args:Array Value} {W:World} {R:Ending→World→Prop} (h:YieldAt Fence.wide m P l args W R):YieldAt Fence.wide m' P l args W R:=by
 obtain ⟨fn,tmps,assign,body,hy,hR⟩:=h;exact ⟨fn,tmps,assign,body,hy,⟨hR.1,fun c cs _=>hR.2 c cs (fun d h=>by cases h)⟩⟩
structure Item (lo hi:Nat) (w0:World) where
 deep:Nat
 v:Value
 c:CN
 d:Nat
 rd:RdC lo hi w0 d v c
def Item.m {lo hi:Nat} {w0:World} (x:Item lo hi w0):Nat × CN:=(x.deep,x.c)
def encI {lo hi:Nat} {w0:World} (x:Item lo hi w0):Array Value:=#[.int .i64 x.deep,x.v]
def KpC (B n1:Nat) (W W':World):Prop:=Below B W W'∧∀ (b:Nat) (o:Obj),n1≤b→W.heap[b]?=some o→o.isCells=true→W'.heap[b]?=some o
theorem KpC.refl (B n1:Nat) (W:World):KpC B n1 W W:=⟨Below.refl _ _,fun _ _ _ h _=>h⟩
theorem KpC.trans {B n1:Nat} {A C D:World} (h:KpC B n1 A C) (k:KpC B n1 C D):KpC B n1 A D:=⟨h.1.trans k.1,fun b o h1 h2 h3=>k.2 b o h1 (h.2 b o h1 h2 h3) h3⟩
theorem KpC.of_below {B n1:Nat} {W W':World} (h:Below W.heap.size W W') (hB:B≤W.heap.size):KpC B n1 W W':=⟨h.mono hB,fun b _ _ h2 _=>(h.block b (Array.getElem?_eq_some_iff.1 h2).1).trans h2⟩
theorem KpC.putObj {B n1:Nat} (W:World) (l:Nat) (o o':Obj) (hB:B≤l) (hl:W.heap[l]?=some o) (ho:o.isCells=false):KpC B n1 W (W.putObj l o') :=
 ⟨(Below.refl B W).grown (grownBy_putObj' W l o') (by have:=(Array.getElem?_eq_some_iff.1 hl).1;omega) (fun k e=>by cases e;exact hB),fun b o2 _ hb hc=>(World.putObj_heap_other (fun e=>by subst e;rw [hl] at hb;cases hb;rw [ho] at hc;cases hc)).trans hb⟩
theorem abides_below {β:Type} {B:Nat} {J:β→World→Prop} (hJ:AbidesFrom B J) {s:β} {W W':World} (h:J s W) (hb:Below W.heap.size W W'):J s W' :=
 hJ s W W' none h ⟨hb.os,hb.tape,hb.output,hb.size,fun k hk _=>hb.block k hk⟩ (fun r e=>by cases e)
theorem BoxC.kept {B n1:Nat} {W W':World} {b:Nat} {v0 v1 v2 v3:Value} (h:BoxC W b v0 v1 v2 v3) (hk:KpC B n1 W W') (hb:n1≤b):BoxC W' b v0 v1 v2 v3:=hk.2 b _ hb h rfl
def BoxT (W:World) (b:Nat) (k:Int) (na:Option Addr) (nn nc:Nat) (ra:Option Addr) (rn rc:Nat) (ka:Option Addr) (kn kc:Nat):Prop :=
 W.heap[b]?=some (.cells #[.int .i64 k,.slice na nn nc,.slice ra rn rc,.slice ka kn kc,.func (.func 129) #[] #[]] 165 (0,0))
theorem BoxT.cells {W:World} {b:Nat} {k:Int} {na:Option Addr} {nn nc:Nat} {ra:Option Addr} {rn rc:Nat} {ka:Option Addr} {kn kc:Nat} (h:BoxT W b k na nn nc ra rn rc ka kn kc) :
    W.cell? ⟨b,0,none⟩=some (.int .i64 k)∧W.cell? ⟨b,1,none⟩=some (.slice na nn nc)∧W.cell? ⟨b,2,none⟩=some (.slice ra rn rc)∧W.cell? ⟨b,3,none⟩=some (.slice ka kn kc)∧W.cell? ⟨b,4,none⟩=some (.func (.func 129) #[] #[]):=by
 unfold BoxT at h;refine ⟨?_,?_,?_,?_,?_⟩ <;> simp [World.cell?,h]
theorem BoxT.kept {B n1:Nat} {W W':World} {b:Nat} {k:Int} {na:Option Addr} {nn nc:Nat} {ra:Option Addr} {rn rc:Nat} {ka:Option Addr} {kn kc:Nat} (h:BoxT W b k na nn nc ra rn rc ka kn kc) (hk:KpC B n1 W W') (hb:n1≤b):BoxT W' b k na nn nc ra rn rc ka kn kc:=hk.2 b _ hb h rfl
theorem RdC.form4 {lo hi d:Nat} {w:World} {v0 v1 v2 v3:Value} {c:CN} (h:RdC lo hi w d (.agg #[v0,v1,v2,v3]) c):∃ k na nn nc ra rn rc ka kn kc,v0=.int .i64 k∧v1=.slice na nn nc∧v2=.slice ra rn rc∧v3=.slice ka kn kc:=by
 cases d with
 | zero=>exact h.elim
 | succ d =>
  obtain ⟨na,nn,nc,ra,rn,rc,ka,kn,kc,hv,_⟩:=h;simp only [Value.agg.injEq,Array.mk.injEq,List.cons.injEq,and_true] at hv;exact ⟨_,_,_,_,_,_,_,_,_,_,hv.1,hv.2.1,hv.2.2.1,hv.2.2.2⟩
def TellOk (lo hi B n1 N l:Nat) (w0:World) (J Jx:List (Item lo hi w0)→World→Prop) (tk:Int) (ta:Option Addr) (tn tc:Nat) (sa:Option Addr) (sn sc:Nat) (ua:Option Addr) (un uc:Nat) (d:Nat):Prop :=
 ∀ (n deep:Nat) (v:Value) (c:CN) (pre:List (Item lo hi w0)) (W:World),RdC lo hi w0 d v c→Below B w0 W→n1≤W.heap.size→J pre W→pre.length+(parts c deep).length≤N→deep+c.bulk≤1099511627776 →
  CallsIn Fence.wide n Tryz.prog 131 #[.agg #[.int .i64 tk,.slice ta tn tc,.slice sa sn sc,.slice ua un uc,.func (.func 129) #[] #[]],.int .i64 deep,v,.func (.yield l) #[] #[]] W fun e W' =>
   (e=.returned (.bool true)∧(∃ ys,ys.map Item.m=parts c deep∧J (pre++ys) W')∧KpC B n1 W W')∨(e=.returned (.bool false)∧∃ q,q.map Item.m <+: parts c deep∧Jx (pre++q) W')
set_option maxRecDepth 100000 in
set_option maxHeartbeats 2000000 in
theorem tell_of {lo hi B n1 N l:Nat} {w0:World} {J Jx:List (Item lo hi w0)→World→Prop} {B':Nat} (hJ:AbidesFrom B' J) (u:hi≤B) (E:B≤n1)
    (hY:∀ m pre x W,J pre W→pre.length<N→YieldAt Fence.wide m Tryz.prog l (encI x) W fun e W' =>
     (e=.returned (.bool true)∧J (pre++[x]) W'∧KpC B n1 W W')∨(e=.returned (.bool false)∧Jx (pre++[x]) W'))
    {tk:Int} {ta:Option Addr} {tn tc:Nat} {sa:Option Addr} {sn sc:Nat} {ua:Option Addr} {un uc:Nat} {d:Nat} (ih:TellOk lo hi B n1 N l w0 J Jx tk ta tn tc sa sn sc ua un uc d):TellOk lo hi B n1 N l w0 J Jx tk ta tn tc sa sn sc ua un uc (d+1):=by
 intro n deep v c pre W hR hW z aF hN be;have O:Hid (RdC lo hi w0 (d+1) v c):=hR;obtain ⟨na,nn,nc,ra,rn,rc,ka,kn,kc,rfl,_,_,hk⟩:=hR;obtain ⟨k,aB⟩:∃ k,k=c.kind:=⟨_,rfl⟩;rw [← aB] at O ⊢;have aN:Hid (c.kids.length=kn):=hk.len;have bc:=hk.fits;have hP:=parts_eq c deep;have Y:=c.bulk_eq;have HP:Hid (parts c deep=(deep,c) :: partsL c.kids (deep+1)):=hP;have b1:Hid (c.bulk=c.name.length+c.role.length+bulks c.kids):=Y;have HN:Hid (pre.length+1+(partsL c.kids (deep+1)).length≤N):=by rw [hP] at hN;simp at hN;unfold Hid;omega
 have HK:Hid (RdL (RdC lo hi w0 d) lo hi w0 ka kn kc c.kids):=hk;obtain ⟨W1,M⟩:∃ W1,W1=(W.alloc (.cells #[.int .i64 tk,.slice ta tn tc,.slice sa sn sc,.slice ua un uc,.func (.func 129) #[] #[]] 165)).alloc (.cells #[.int .i64 k,.slice na nn nc,.slice ra rn rc,.slice ka kn kc] 104):=⟨_,rfl⟩;have ak:Below W.heap.size W W1:=by rw [M];exact ((Below.refl _ _).alloc (Nat.le_refl _) _).alloc (by simp) _
 have b5:Hid (Below W.heap.size W W1):=ak;have b2:Hid (BoxT W1 W.heap.size tk ta tn tc sa sn sc ua un uc):=by unfold Hid;rw [M];exact (Below.heap_alloc _ _ _ (by simp)).trans (World.alloc_heap_new W _)
 have b3:Hid (BoxC W1 (W.heap.size+1) (.int .i64 k) (.slice na nn nc) (.slice ra rn rc) (.slice ka kn kc)):=by unfold Hid;rw [M];have:=BoxC.new (W.alloc (.cells #[.int .i64 tk,.slice ta tn tc,.slice sa sn sc,.slice ua un uc,.func (.func 129) #[] #[]] 165)) (.int .i64 k) (.slice na nn nc) (.slice ra rn rc) (.slice ka kn kc);rwa [World.size_alloc] at this
 have aS:Hid (W1=(W.alloc (.cells #[.int .i64 tk,.slice ta tn tc,.slice sa sn sc,.slice ua un uc,.func (.func 129) #[] #[]] 165)).alloc (.cells #[.int .i64 k,.slice na nn nc,.slice ra rn rc,.slice ka kn kc] 104)):=M;have a5:=abides_below hJ aF ak;have a2:=hY (n - 1) pre ⟨deep,.agg #[.int .i64 k,.slice na nn nc,.slice ra rn rc,.slice ka kn kc],c,d+1,O.out⟩ W1 a5 (by have:=HN.out;omega);unfold encI at a2;dsimp only at a2;rw [M] at a2;obtain ⟨fn,tmps,assign,body,hy,aC⟩:=a2
 have aL:Hid (RoundIn Fence.wide (n - 1) Tryz.prog l fn tmps assign body ((W.alloc (.cells #[.int .i64 tk,.slice ta tn tc,.slice sa sn sc,.slice ua un uc,.func (.func 129) #[] #[]] 165)).alloc (.cells #[.int .i64 k,.slice na nn nc,.slice ra rn rc,.slice ka kn kc] 104)) fun e W' =>
     (e=.returned (.bool true)∧J (pre++[⟨deep,.agg #[.int .i64 k,.slice na nn nc,.slice ra rn rc,.slice ka kn kc],c,d+1,O.out⟩]) W'∧KpC B n1 ((W.alloc (.cells #[.int .i64 tk,.slice ta tn tc,.slice sa sn sc,.slice ua un uc,.func (.func 129) #[] #[]] 165)).alloc (.cells #[.int .i64 k,.slice na nn nc,.slice ra rn rc,.slice ka kn kc] 104)) W')∨(e=.returned (.bool false)∧Jx (pre++[⟨deep,.agg #[.int .i64 k,.slice na nn nc,.slice ra rn rc,.slice ka kn kc],c,d+1,O.out⟩]) W')):=aC
 clear aC a5 M ak hk aB hP Y hN aF hY;refine callsIn_of_wp Tryz.func131 rfl trivial ?_ rfl;simp only [Tryz.ntmps131,List.size_toArray,List.length_cons,List.length_nil,Nat.reduceAdd,Nat.reduceSub,Array.replicate_succ,Array.replicate_zero,List.push_toArray,List.append_toArray,List.nil_append,List.cons_append]
 gi_wp2_with fail
 refine ⟨fun h=>(by cases h),?_⟩;refine aL.out.mono ?_;rintro e W2 (⟨rfl,aE,U⟩ | ⟨rfl,aP⟩)
 · rw [← aS.out] at U;have G:=b2.out.kept U z;have I:=b3.out.kept U (Nat.le_succ_of_le z);have av:Hid (BoxT W2 W.heap.size tk ta tn tc sa sn sc ua un uc):=G;have ax:Hid (BoxC W2 (W.heap.size+1) (.int .i64 k) (.slice na nn nc) (.slice ra rn rc) (.slice ka kn kc)):=I;obtain ⟨p0,p1,p2,p3,p4⟩:=G.cells;obtain ⟨q0,q1,q2,q3⟩:=I.cells;have a0:Hid (KpC B n1 W W2):=(KpC.of_below b5.out (Nat.le_trans E z)).trans U;have aZ:Hid (J (pre++[⟨deep,.agg #[.int .i64 k,.slice na nn nc,.slice ra rn rc,.slice ka kn kc],c,d+1,O.out⟩]) W2):=aE;have bb:W.heap.size+1<W2.heap.size:=ax.out.lt;clear U G I aE aL hy
   gi_wp2_with fail
   refine ⟨trivial,fun h=>(by cases h),?_⟩;refine (kidsOf_in _ _ _ _ _ _).mono ?_;rintro e W3 ⟨rfl,aA⟩;have Z:Below W2.heap.size W2 W3:=by rw [aA];exact (Below.refl _ _).alloc (Nat.le_refl _) _
   have ba:=Z.size;have ao:Hid (KpC B n1 W W3):=a0.out.trans (KpC.of_below Z (by have:=a0.out.1.size;omega));have au:Hid (BoxT W3 W.heap.size tk ta tn tc sa sn sc ua un uc):=av.out.kept (KpC.of_below (B:=0) (n1:=0) Z (Nat.zero_le _)) (Nat.zero_le _);have aY:Hid (J (pre++[⟨deep,.agg #[.int .i64 k,.slice na nn nc,.slice ra rn rc,.slice ka kn kc],c,d+1,O.out⟩]) W3):=abides_below hJ aZ.out Z;clear aA Z p0 p1 p2 p3 p4 q0 q1 q2 q3
   gi_wp2_with fail
   gi_loopw [21] (fun i wr=>∃ (j:Nat) (ys:List (Item lo hi w0)),j≤kn∧i=.int .i64 j∧ys.map Item.m=(deep,c) :: partsL (c.kids.take j) (deep+1)∧J (pre++ys) wr∧KpC B n1 W wr∧BoxT wr W.heap.size tk ta tn tc sa sn sc ua un uc∧W.heap.size+1<wr.heap.size) (fun i _=>kn - (intOf i).toNat)
   case atStart=>exact ⟨0,_,Nat.zero_le _,rfl,by simp [partsL,Item.m],aY.out,ao.out,au.out,by omega⟩
   case round =>
    obtain ⟨j,ys,hj,rfl,T,am,a3,a7,b7⟩:=hrel;have a8:Hid (ys.map Item.m=(deep,c) :: partsL (c.kids.take j) (deep+1)):=T;have aO:Hid (J (pre++ys) wr):=am;have aM:Hid (KpC B n1 W wr):=a3;have b0:Hid (BoxT wr W.heap.size tk ta tn tc sa sn sc ua un uc):=a7;have V:Below B w0 wr:=hW.trans a3.1;by_cases hlt:j<kn
    · have aj:j<c.kids.length:=by rw [aN.out];exact hlt
      rcases HK.out.cells with hz | ⟨b,a1,e1,_,F,hc⟩
      · omega
      subst e1;obtain ⟨v0,v1,v2,v3,aJ,aI,aH,aG,ai⟩:=hc j hlt;have c0:=(V.cell (p:=⟨b,a1+j*4,none⟩) (Nat.lt_of_lt_of_le F u)).trans aJ;have c1:=(V.cell (p:=⟨b,a1+j*4+1,none⟩) (Nat.lt_of_lt_of_le F u)).trans aI;have c2:=(V.cell (p:=⟨b,a1+j*4+2,none⟩) (Nat.lt_of_lt_of_le F u)).trans aH;have c3:=(V.cell (p:=⟨b,a1+j*4+3,none⟩) (Nat.lt_of_lt_of_le F u)).trans aG;obtain ⟨kk,ae,ac,ad,ab,a9,aa,ah,af,ag,rfl,rfl,rfl,rfl⟩:=ai.form4;have ap:Hid (RdC lo hi w0 d (.agg #[.int .i64 kk,.slice ae ac ad,.slice ab a9 aa,.slice ah af ag]) (c.kids.getD j CN.zero)):=ai;obtain ⟨p0,p1,p2,p3,p4⟩:=a7.cells;have bd:(j:Int)<(kn:Int):=by omega
      have b6:W.heap.size<wr.heap.size:=by omega
      have HT:Hid (partsL (c.kids.take (j+1)) (deep+1)=partsL (c.kids.take j) (deep+1)++parts (c.kids.getD j CN.zero) (deep+1)):=partsL_take_succ _ _ _ aj;have aK:Hid (partsL c.kids (deep+1)=partsL (c.kids.take (j+1)) (deep+1)++partsL (c.kids.drop (j+1)) (deep+1)):=partsL_take_drop _ _ _;have aQ:=getD_bulk_le c.kids j aj;have aT:Hid (deep+1+(c.kids.getD j CN.zero).bulk≤1099511627776):=by have:=b1.out;unfold Hid;omega
      obtain ⟨W4,al⟩:∃ W4,W4=wr.alloc (.cells #[.int .i64 kk,.slice ae ac ad,.slice ab a9 aa,.slice ah af ag] 104):=⟨_,rfl⟩;have L:Below wr.heap.size wr W4:=by rw [al];exact (Below.refl _ _).alloc (Nat.le_refl _) _
      have b4:Hid (Below wr.heap.size wr W4):=L;have aR:Hid (W4=wr.alloc (.cells #[.int .i64 kk,.slice ae ac ad,.slice ab a9 aa,.slice ah af ag] 104)):=al;have aV:Hid (KpC B n1 W W4):=aM.out.trans (KpC.of_below L (by omega));have ar:Hid (BoxT W4 W.heap.size tk ta tn tc sa sn sc ua un uc):=b0.out.kept (KpC.of_below (B:=0) (n1:=0) L (Nat.zero_le _)) (Nat.zero_le _);have aX:Hid (J (pre++ys) W4):=abides_below hJ aO.out L;have b9:=L.size
      have an:Hid ((pre++ys).length+(parts (c.kids.getD j CN.zero) (deep+1)).length≤N):=by
       have e1:=congrArg List.length a8.out;have e2:=congrArg List.length HT.out;have e3:=congrArg List.length aK.out;simp only [List.length_map,List.length_cons,List.length_append] at e1 e2 e3;have:=HN.out;unfold Hid;rw [List.length_append];omega
      clear T am a3 a7 hc ai aJ aI aH aG L al aQ aj
      gi_wp2_with fail
      rw [← aR.out];refine ⟨trivial,fun h=>(by cases h),?_⟩;refine (ih (n - 1) (deep+1) _ (c.kids.getD j CN.zero) (pre++ys) W4 ap.out (V.trans ?_) (by omega) aX.out an.out aT.out).mono ?_
      · exact b4.out.mono (by omega)
      rintro e W5 (⟨rfl,⟨zs,ay,aD⟩,a4⟩ | ⟨rfl,q,hq,az⟩)
      · have HE:Hid ((ys++zs).map Item.m=(deep,c) :: partsL (c.kids.take (j+1)) (deep+1)):=by unfold Hid;rw [List.map_append,a8.out,ay,HT.out];rfl
        have aW:Hid (J (pre++(ys++zs)) W5):=by unfold Hid;rw [← List.append_assoc];exact aD
        have aU:Hid (KpC B n1 W W5):=aV.out.trans a4;have aq:Hid (BoxT W5 W.heap.size tk ta tn tc sa sn sc ua un uc):=ar.out.kept a4 z;have b8:=a4.1.size;clear ay aD a4
        gi_wp2_with fail
        go_roundw
        case rel=>exact ⟨j+1,_,by omega,by go_num,HE.out,aW.out,aU.out,aq.out,by omega⟩
        case measure=>simp [intOf];omega
      have HQ:Hid ((ys++q).map Item.m <+: parts c deep):=by
       obtain ⟨t,ht⟩:=hq;refine ⟨t++partsL (c.kids.drop (j+1)) (deep+1),?_⟩;rw [HP.out,aK.out,HT.out,← ht,List.map_append,a8.out];simp
      have HX:Hid (Jx (pre++(ys++q)) W5):=by unfold Hid;rw [← List.append_assoc];exact az
      clear hq az
      gi_wp2_with fail
      go_ret;exact .inr ⟨rfl,_,HQ.out,HX.out⟩
    have HE:Hid (ys.map Item.m=parts c deep):=by unfold Hid;rw [a8.out,HP.out,List.take_of_length_le (by rw [aN.out];omega)]
    clear T am a3 a7
    gi_wp2_with fail
    go_ret;exact .inl ⟨rfl,⟨ys,HE.out,aO.out⟩,aM.out⟩
 gi_wp2_with fail
 go_ret;exact .inr ⟨rfl,_,⟨partsL c.kids (deep+1),by rw [HP.out];rfl⟩,aP⟩
theorem tell_any {lo hi B n1 N l:Nat} {w0:World} {J Jx:List (Item lo hi w0)→World→Prop} {B':Nat} (hJ:AbidesFrom B' J) (u:hi≤B) (E:B≤n1)
    (hY:∀ m pre x W,J pre W→pre.length<N→YieldAt Fence.wide m Tryz.prog l (encI x) W fun e W' =>
     (e=.returned (.bool true)∧J (pre++[x]) W'∧KpC B n1 W W')∨(e=.returned (.bool false)∧Jx (pre++[x]) W'))
    {tk:Int} {ta:Option Addr} {tn tc:Nat} {sa:Option Addr} {sn sc:Nat} {ua:Option Addr} {un uc:Nat}:∀ d,TellOk lo hi B n1 N l w0 J Jx tk ta tn tc sa sn sc ua un uc d
 | 0=>fun _ _ _ _ _ _ h=>h.elim
 | d+1=>tell_of hJ u E hY (tell_any hJ u E hY d)
set_option maxHeartbeats 1000000 in
theorem all1_in {lo hi B n1 l:Nat} {w0:World} {J Jx:List (Item lo hi w0)→World→Prop} {B':Nat} (hJ:AbidesFrom B' J) (u:hi≤B) (E:B≤n1) (n Bt:Nat) (c:CN) {d:Nat}
    {k:Int} {na:Option Addr} {nn nc:Nat} {ra:Option Addr} {rn rc:Nat} {ka:Option Addr} {kn kc:Nat} (hR:RdC lo hi w0 d (.agg #[.int .i64 k,.slice na nn nc,.slice ra rn rc,.slice ka kn kc]) c) (Y:c.bulk≤1073741824)
    (hY:∀ m pre x W,J pre W→pre.length<(parts c 1).length→YieldAt Fence.wide m Tryz.prog l (encI x) W fun e W' =>
     (e=.returned (.bool true)∧J (pre++[x]) W'∧KpC B n1 W W')∨(e=.returned (.bool false)∧Jx (pre++[x]) W'))
    (W:World) (hW:Below B w0 W) (z:n1≤W.heap.size) (a6:BoxT W Bt k na nn nc ra rn rc ka kn kc) (h0:J [] W) :
    CallsIn Fence.wide n Tryz.prog 130 #[.func (.yield l) #[] #[],.pointer (some ⟨Bt,0,none⟩)] W fun e W'=>(∃ v,e=.returned v) ∧
     ((∃ ys,ys.map Item.m=parts c 1∧J ys W')∨(∃ pre,pre.map Item.m <+: parts c 1∧Jx pre W')):=by
 obtain ⟨p0,p1,p2,p3,p4⟩:=a6.cells;have HT:Hid (TellOk lo hi B n1 (parts c 1).length l w0 J Jx k na nn nc ra rn rc ka kn kc d):=tell_any hJ u E hY d;have HR:Hid (RdC lo hi w0 d (.agg #[.int .i64 k,.slice na nn nc,.slice ra rn rc,.slice ka kn kc]) c):=hR;clear hY hR;refine callsIn_of_wp Tryz.func130 rfl trivial ?_ rfl;simp only [Tryz.ntmps130,List.size_toArray,List.length_cons,List.length_nil,Nat.reduceAdd,Nat.reduceSub,Array.replicate_succ,Array.replicate_zero,List.push_toArray,List.append_toArray,List.nil_append,List.cons_append]
 gi_wp2_with fail
 refine ⟨trivial,fun h=>(by cases h),?_⟩;refine (HT.out (n - 1) 1 _ c [] W HR.out hW z h0 (by simp) (by omega)).mono ?_;rintro e W1 (⟨rfl,⟨ys,T,a5⟩,_⟩ | ⟨rfl,q,hq,hx⟩)
 · gi_wp2_with fail
   go_end0;exact ⟨⟨_,rfl⟩,.inl ⟨ys,T,by simpa using a5⟩⟩
 gi_wp2_with fail
 go_end0;exact ⟨⟨_,rfl⟩,.inr ⟨q,hq,by simpa using hx⟩⟩
theorem parts_stops {lo hi B n1:Nat} (n Bt:Nat) {w0 w:World} (u:hi≤B) (E:B≤n1) (c:CN) {d:Nat}
    {k:Int} {na:Option Addr} {nn nc:Nat} {ra:Option Addr} {rn rc:Nat} {ka:Option Addr} {kn kc:Nat} (hR:RdC lo hi w0 d (.agg #[.int .i64 k,.slice na nn nc,.slice ra rn rc,.slice ka kn kc]) c) (Y:c.bulk≤1073741824)
    (hb:Below B w0 w) (z:n1≤w.heap.size) (a6:BoxT w Bt k na nn nc ra rn rc ka kn kc) :
    SeqStopsK Fence.wide n Tryz.prog 130 #[.pointer (some ⟨Bt,0,none⟩)] (encI (lo:=lo) (hi:=hi) (w0:=w0)) (KpC B n1) (fun ys=>ys.map Item.m=parts c 1) (fun pre=>pre.map Item.m <+: parts c 1) (parts c 1).length w:=fun _ _ _ W hW hJ _ hY h0 =>
 all1_in hJ u E n Bt c hR Y (fun m pre x W hj hl=>yieldAt_wide m (hY pre x W hj hl)) W (hb.trans (hW.mono (Nat.le_trans E z))) (Nat.le_trans z hW.size) ((hW.block Bt (Array.getElem?_eq_some_iff.1 a6).1).trans a6) h0
end Go.Proofs.YtellcgmabimieaaGreatDoor
