/- The program's reader: one thing told, whole. -/
import Derived.Test.YtocpeiaolofodaaGreatNG18
import Derived.Test.YtocpeiaolofodaaGreatNG20
import Derived.Test.YtocpeiaolofodaaGreatNG12
import Derived.Lib.OthersKept
import Derived.Laws.Rows
import Derived.Laws.Tables
namespace Go.Proofs.YtocpeiaolofodaaGreat
open Go.RowKit
set_option linter.unusedVariables false
def AxP (pb g:Nat) (ts:List Tok) (gs:List (Nat × Nat)) (en:Int) (i:Nat) (w:World) (r:ResX) (e:Ending) (w':World):Prop :=
 Bt pb w.heap.size w w'∧match r with
 | .bad q=>e=gaveUp q
 | .ok x j=>∃ V Ls,e=.returned (.agg (V.arr x.kind))∧PaX w' 6 V x Ls∧Se6 ts gs i j w.heap.size w'.heap.size w' Ls∧RdrAt w' pb g j ts en
theorem AxP.fell {pb g:Nat} {ts:List Tok} {gs:List (Nat × Nat)} {en:Int} {i:Nat} {w:World} {r:ResX} {p q:Int} {w':World} (hb:Bt pb w.heap.size w w') (hr:r=.bad p) (hq:q=p):AxP pb g ts gs en i w r (.panicked [{ v:=.iface 82 (.int .i64 q),recovered:=false }]) w':=by
 subst hr;subst hq;exact ⟨hb,rfl⟩
theorem PaX.forms {w:World} {d:Nat} {V:XV} {x:AX} {Ls:Nat→List (Addr × IntKind)} (h:PaX w d V x Ls):∃ (ck:Int) (ab:Option Addr) (a8 a9:Nat) (a7:Option Addr) (a5 a6:Nat) (a0:Option Addr) (Y Z:Nat) (dk:Int) (X:Option Addr) (T U:Nat) (O:Option Addr) (J N:Nat) (I:Option Addr) (G H:Nat) (ra:Option Addr) (rn rc:Nat) (sa:Option Addr) (sn sc:Nat) (aa:Option Addr) (an ac:Nat) (ba:Option Addr) (bn bc:Nat),
    V=⟨.int .i64 ck,.slice ab a8 a9,.slice a7 a5 a6,.slice a0 Y Z,.int .i64 dk,.slice X T U,.slice O J N,.slice I G H,.slice ra rn rc,.slice sa sn sc,.slice aa an ac,.slice ba bn bc⟩:=by
 obtain ⟨_,_,_,_,_,_,_,_,_,e1⟩:=h.c.agg;obtain ⟨_,_,_,_,_,_,_,_,_,e2⟩:=h.d.agg;obtain ⟨_,_,_,e3⟩:=h.r.form;obtain ⟨_,_,_,e4⟩:=h.s.form;obtain ⟨_,_,_,e5⟩:=h.a.form;obtain ⟨_,_,_,e6⟩:=h.b.form;simp only [Value.agg.injEq,Array.mk.injEq,List.cons.injEq,and_true] at e1 e2;obtain ⟨a1,a2,a3,a4⟩:=e1;obtain ⟨b1,b2,b3,b4⟩:=e2;cases V;simp only at a1 a2 a3 a4 b1 b2 b3 b4 e3 e4 e5 e6;subst a1 a2 a3 a4 b1 b2 b3 b4 e3 e4 e5 e6;exact ⟨_,_,_,_,_,_,_,_,_,_,_,_,_,_,_,_,_,_,_,_,_,_,_,_,_,_,_,_,_,_,_,_,rfl⟩
def posOf (w:World) (b:Nat):Nat:=match w.heap[b]? with | some (.stringIter _ q)=>q | _=>0
theorem posOf_at {w:World} {b q:Nat} {s:ByteArray} (h:w.heap[b]?=some (.stringIter s q)):posOf w b=q:=by unfold posOf;rw [h]
theorem fieldsN_size (k:Int):(fieldsS k).size=(fieldsN k).length:=by
 unfold fieldsS fieldsN
 repeat' split
 all_goals rfl
theorem fieldsN_at (k:Int) (q:Nat) (h:q<(fieldsS k).size):((fieldsS k)[q]'h).toNat=(fieldsN k).getD q 0∧((fieldsS k)[q]'h).toNat<128∧((fieldsN k).getD q 0=67∨(fieldsN k).getD q 0=68∨(fieldsN k).getD q 0=82∨(fieldsN k).getD q 0=83∨(fieldsN k).getD q 0=65∨(fieldsN k).getD q 0=66):=by
 have bO:∀ (s:ByteArray) (l:List Nat) (hq:q<s.size),s.size=l.length→(s=⟨#[67,68]⟩∧l=[67,68]∨s=⟨#[82,83]⟩∧l=[82,83]∨s=⟨#[65,67]⟩∧l=[65,67]∨s=⟨#[82,65,66]⟩∧l=[82,65,66]∨s=⟨#[]⟩∧l=[]) →
     (s[q]'hq).toNat=l.getD q 0∧(l.getD q 0=67∨l.getD q 0=68∨l.getD q 0=82∨l.getD q 0=83∨l.getD q 0=65∨l.getD q 0=66):=by
  intro s l hq hl hc;rcases hc with ⟨rfl,rfl⟩ | ⟨rfl,rfl⟩ | ⟨rfl,rfl⟩ | ⟨rfl,rfl⟩ | ⟨rfl,rfl⟩
  · match q,hq with
    | 0,_ | 1,_=>exact ⟨rfl,by decide⟩
    | q+2,hq=>exact absurd hq (by show ¬ q+2<2;omega)
  · match q,hq with
    | 0,_ | 1,_=>exact ⟨rfl,by decide⟩
    | q+2,hq=>exact absurd hq (by show ¬ q+2<2;omega)
  · match q,hq with
    | 0,_ | 1,_=>exact ⟨rfl,by decide⟩
    | q+2,hq=>exact absurd hq (by show ¬ q+2<2;omega)
  · match q,hq with
    | 0,_ | 1,_ | 2,_=>exact ⟨rfl,by decide⟩
    | q+3,hq=>exact absurd hq (by show ¬ q+3<3;omega)
  exact absurd hq (by show ¬ q<0;omega)
 have k1:=bO _ _ h (fieldsN_size k) (by
  unfold fieldsS fieldsN
  repeat' split
  all_goals simp)
 exact ⟨k1.1,by rw [k1.1];have:=k1.2;omega,k1.2⟩
theorem StX.iter {pb g:Nat} {ts:List Tok} {gs:List (Nat × Nat)} {en:Int} {w0:World} {i0 p s:Nat} {k:Int} {w:World} {V:XV} {x:AX} {Ls:Nat→List (Addr × IntKind)} {j:Nat} {base:Nat} (h:StX pb g ts gs en w0 i0 p s k w V x Ls j) (hS:SsX base pb g ts gs w0 p s) {b:Nat} (h1:p<b) (h2:b<s) (sB:ByteArray) (q:Nat):StX pb g ts gs en w0 i0 p s k (w.iterAt b sB q) V x Ls j:=by
 have aT:=hS.plt;have bU:=hS.p0;have hn:∀ c,c≠b→(w.iterAt b sB q).heap[c]?=w.heap[c]?:=fun c hc=>Lib.iterAt_other _ _ _ _ _ hc
 have aj:(w.iterAt b sB q).heap.size=w.heap.size:=Lib.iterAt_size _ _ _ _;have hk:∀ c,∀ y∈Ls c,(w.iterAt b sB q).heap[y.1.block]?=w.heap[y.1.block]?:=fun c y hy=>hn _ ((h.se.us c).ne hS.t (by omega) h2 y hy)
 exact ⟨h.bt.trans (Bt.of_below (Lib.below_iterAt (Below.refl _ _) (by omega) _ _)),h.box.of (hn p (by omega)),h.pa.keep hk,by rw [aj];exact h.se.keep hk,h.rdr.of (hn pb (by omega)),by rw [aj];exact h.le⟩
theorem StX.fin {base pb g:Nat} {ts:List Tok} {gs:List (Nat × Nat)} {en:Int} {i p s:Nat} {k:Int} {w w5:World} {V:XV} {x:AX} {Ls:Nat→List (Addr × IntKind)} {j i0:Nat} (h:StX pb g ts gs en w i0 p s k w5 V x Ls j) (hS:SsX base pb g ts gs w p s) (hi:i≤i0) (hp:w.heap.size<p) (hk:x.kind=k) {r:ResX} (hr:r=.ok x j) (cs:Array Value) (bX:cs=V.arr k) :
    AxP pb g ts gs en i w r (.returned (.agg cs)) (w5.setRow w.heap.size cs):=by
 subst hr bX;have aT:=hS.plt;have bU:=hS.p0;have cn:=hS.p1;have hn:∀ c,c≠w.heap.size→(w5.setRow w.heap.size (V.arr k)).heap[c]?=w5.heap[c]?:=fun c hc=>setRow_other w5 w.heap.size c _ hc
 have aj:(w5.setRow w.heap.size (V.arr k)).heap.size=w5.heap.size:=setRow_size _ _ _;have bg:∀ c,∀ y∈Ls c,(w5.setRow w.heap.size (V.arr k)).heap[y.1.block]?=w5.heap[y.1.block]?:=fun c y hy=>hn _ ((h.se.us c).ne hS.t (by omega) (by omega) y hy)
 refine ⟨⟨h.bt.os,h.bt.tape,h.bt.output,by rw [aj];exact h.bt.size,fun c hc bY=>(hn c (by omega)).trans (h.bt.block c hc bY)⟩,V,Ls,by rw [hk],h.pa.keep bg,?_,h.rdr.of (hn pb (by omega))⟩;rw [aj];exact (h.se.keep bg).mono hi (Nat.le_refl _) (by omega) (Nat.le_refl _)
set_option maxRecDepth 100000 in
set_option maxHeartbeats 4000000 in
theorem axiom_any (base pb g i:Nat) (ts:List Tok) (gs:List (Nat × Nat)) (en:Int) (w:World) (hR:RdrAt w pb g i ts en) (hT:TkM base pb w g ts gs) (hi:i≤ts.length) :
    Calls Tryz.prog 52 #[.pointer (some ⟨pb,0,none⟩)] w (AxP pb g ts gs en i w (axR ts en i)):=by
 have aM:=hR.lt;have bC:Hid (TkM base pb w g ts gs):=hT;obtain ⟨W0,aH⟩:∃ W,Hid (W=w.alloc (.cells #[.int .i64 0,.int .i64 0,.slice none 0 0,.slice none 0 0,.slice none 0 0,.int .i64 0,.slice none 0 0,.slice none 0 0,.slice none 0 0,.slice none 0 0,.slice none 0 0,.slice none 0 0,.slice none 0 0] 39)):=⟨_,rfl⟩;have aE:Below w.heap.size w W0:=by rw [aH.out];exact (Below.refl _ _).alloc (Nat.le_refl _) _
 have ap:Hid (Below w.heap.size w W0):=aE;have bA:Hid (BoxX W0 w.heap.size 0 XV.zero):=by unfold Hid;rw [aH.out];exact World.alloc_heap_new w _
 have bG:Hid (RdrAt W0 pb g i ts en):=hR.below aE;have aI:Hid (TkM base pb W0 g ts gs):=hT.below (aE.mono (Nat.le_of_lt aM));clear aE hR hT;go_enter Tryz.func52, Tryz.ntmps52;cases h1:isI ts 1 i
 · have HC:Hid (axR ts en i=.bad (hereI ts en i)):=by unfold Hid;rw [axR,if_pos h1]
   go_wp2_with fail;rw [← aH.out];refine (take_bad base pb g i ts gs en 1 _ bG.out aI.out hi h1).mono ?_;rintro e w1 ⟨rfl,F⟩;have A:Hid (Bt pb w.heap.size w w1):=Bt.of_below (ap.out.trans (F.mono ap.out.size));clear F;simp only [gaveUp];go_wp2;exact ⟨rfl,AxP.fell A.out HC.out rfl⟩
 have aN:=isI_lt h1;obtain ⟨ta,tc,hx,_,_,_⟩:=aI.out.word aN;obtain ⟨tn,bb⟩:∃ tn,tn=(wordI ts i).length:=⟨_,rfl⟩;have HX:Hid (txv (ts.getD i Tok.zero) (gs.getD i (0,0))=.slice ta (wordI ts i).length tc):=hx;have bD:Hid (tn=(wordI ts i).length):=bb;obtain ⟨pl,hp⟩:∃ pl,pl=hereI ts en i:=⟨_,rfl⟩;have HP:Hid (pl=hereI ts en i):=hp;obtain ⟨kd,bh⟩:∃ kd,kd=kindXI ts i:=⟨_,rfl⟩;have ai:Hid (kd=kindXI ts i):=bh;clear hx bb hp bh;go_wp2_with fail;rw [← aH.out];refine (take_ok base pb g i ts gs en 1 _ bG.out aI.out h1).mono ?_;rintro e w1 ⟨rfl,bq,F⟩;rw [HX.out,← bD.out,← HP.out];have cd:Hid (RdrAt w1 pb g (i+1) ts en):=bq;have c7:Hid (TkM base pb w1 g ts gs):=aI.out.bt F (by have:=ap.out.size;omega);have bz:Hid (BoxX w1 w.heap.size 0 XV.zero):=bA.out.of (F.block _ bA.out.lt (by omega));have aZ:Hid (Bt pb w.heap.size w w1):=(Bt.of_below ap.out).trans (F.mono ap.out.size);have bS:w.heap.size<w1.heap.size:=bz.out.lt;clear bq F;go_wp2_with fail;obtain ⟨W1,ao⟩:∃ W1,Hid (W1=w1.alloc (.cells #[.int .i64 1,.int .i64 pl,.slice ta tn tc] 115)):=⟨_,rfl⟩;rw [← ao.out];have aO:Below w1.heap.size w1 W1:=by rw [ao.out];exact (Below.refl _ _).alloc (Nat.le_refl _) _
 have bK:Hid (BoxK3 W1 w1.heap.size (.int .i64 1) (.int .i64 pl) (.slice ta tn tc)):=by unfold Hid;rw [ao.out];exact BoxK3.new w1 _ _ _
 have av:Hid (Rd 0 pb W1 ta tn tc (wordI ts i)):=by
  obtain ⟨a',c',aL,_,hr,_⟩:=(c7.out.below (aO.mono (by omega))).word aN;rw [HX.out] at aL;simp only [Value.slice.injEq,true_and] at aL;obtain ⟨rfl,rfl⟩:=aL;unfold Hid;rw [bD.out];exact hr
 refine (axiomKind_any ta tn tc (wordI ts i) W1 av.out).mono ?_;rintro e w2 ⟨rfl,nd,ay⟩;rw [show kindX (strOfNums (wordI ts i)).toList=kd from ai.out.symm];have aD:Below w1.heap.size w1 w2:=by rw [ay];exact below_drewN aO nd
 have bJ:Hid (BoxK3 w2 w1.heap.size (.int .i64 1) (.int .i64 pl) (.slice ta tn tc)):=by unfold Hid;rw [ay];exact bK.out
 have cc:Hid (RdrAt w2 pb g (i+1) ts en):=cd.out.below aD;have bx:Hid (BoxX w2 w.heap.size 0 XV.zero):=bz.out.of (aD.block _ bS);have ax:Hid (Bt pb w.heap.size w w2):=aZ.out.trans (Bt.of_below (aD.mono (by omega)));have cj:w1.heap.size<w2.heap.size:=by rw [ay];show w1.heap.size<W1.heap.size;rw [ao.out,World.size_alloc];omega
 obtain ⟨t0,t1,t2⟩:=bJ.out.cells;clear ay aD aO ao bK av;by_cases hkm:kd=-1
 · have HC:Hid (axR ts en i=.bad (hereI ts en i)):=by unfold Hid;rw [axR,if_neg (by simp [h1]),if_pos (ai.out ▸ hkm)]
   have bV:(kd == -1)=true:=by simp [hkm]
   obtain ⟨W3,ag⟩:∃ W,Hid (W=w2.alloc (.cells #[.int .i64 kd,.int .i64 0,.slice none 0 0,.slice none 0 0,.slice none 0 0,.int .i64 0,.slice none 0 0,.slice none 0 0,.slice none 0 0,.slice none 0 0,.slice none 0 0,.slice none 0 0,.slice none 0 0] 39)):=⟨_,rfl⟩;have ci:Hid (Below w2.heap.size w2 W3):=by unfold Hid;rw [ag.out];exact (Below.refl _ _).alloc (Nat.le_refl _) _
   have A:Hid (Bt pb w.heap.size w W3):=ax.out.trans (Bt.of_below (ci.out.mono (by omega)));clear hkm;go_wp2;exact ⟨rfl,AxP.fell (by rw [ag.out] at A;exact A.out) HC.out HP.out⟩
 have bV:(kd == -1)=false:=by simpa using hkm
 have bH:Hid (kd≠-1):=hkm;have cr:0≤kd∧kd≤5:=by have:=kindXI_range ts i;rw [← ai.out] at this;omega
 go_wp2_with fail;obtain ⟨W3,ag⟩:∃ W,Hid (W=w2.alloc (.cells #[.int .i64 kd,.int .i64 0,.slice none 0 0,.slice none 0 0,.slice none 0 0,.int .i64 0,.slice none 0 0,.slice none 0 0,.slice none 0 0,.slice none 0 0,.slice none 0 0,.slice none 0 0,.slice none 0 0] 39)):=⟨_,rfl⟩;rw [← ag.out];have aC:Below w2.heap.size w2 W3:=by rw [ag.out];exact (Below.refl _ _).alloc (Nat.le_refl _) _
 have bB:Hid (BoxX W3 w2.heap.size kd XV.zero):=by unfold Hid;rw [ag.out];exact World.alloc_heap_new w2 _
 have bF:Hid (RdrAt W3 pb g (i+1) ts en):=cc.out.below aC;have ae:Hid (Bt pb w.heap.size w W3):=ax.out.trans (Bt.of_below (aC.mono (by omega)));have bE:Hid (TkM base pb W3 g ts gs):=bC.out.bt ae.out (Nat.le_of_lt aM);have c6:Hid (BoxX W3 w.heap.size 0 XV.zero):=bx.out.of (aC.block _ bx.out.lt);have bR:w2.heap.size<W3.heap.size:=bB.out.lt;clear aC t0 t1 t2 bJ;cases h3:isI ts 3 (i+1)
 · have HC:Hid (axR ts en i=.bad (hereI ts en (i+1))):=by unfold Hid;rw [axR,if_neg (by simp [h1]),if_neg (ai.out ▸ bH.out),if_pos h3]
   refine (take_bad base pb g (i+1) ts gs en 3 _ bF.out bE.out aN h3).mono ?_;rintro e w4 ⟨rfl,E⟩;have A:Hid (Bt pb w.heap.size w w4):=ae.out.trans (Bt.of_below (E.mono (by omega)));clear E;simp only [gaveUp];go_wp2;exact ⟨rfl,AxP.fell A.out HC.out rfl⟩
 have cq:=isI_lt h3;have aR:Hid (axR ts en i=closeX ts en (fieldsR ts en (fieldsN kd) (AX.kd kd) (i+2))):=by unfold Hid;rw [axR,if_neg (by simp [h1]),if_neg (ai.out ▸ bH.out),if_neg (by simp [h3]),← ai.out]
 refine (take_ok base pb g (i+1) ts gs en 3 _ bF.out bE.out h3).mono ?_;rintro e w4 ⟨rfl,bp,E⟩
 obtain ⟨xa,xn,xc,b9⟩:∃ xa xn xc,txv (ts.getD (i+1) Tok.zero) (gs.getD (i+1) (0,0))=.slice xa xn xc:=by
  obtain ⟨a,c,h⟩:=txv_form (ts.getD (i+1) Tok.zero) (gs.getD (i+1) (0,0));exact ⟨_,_,_,h⟩
 rw [b9];obtain ⟨pk,aA⟩:∃ pk,pk=w2.heap.size:=⟨_,rfl⟩;have ct:Hid (pk=w2.heap.size):=aA;have cb:Hid (RdrAt w4 pb g (i+2) ts en):=bp;have aP:Hid (BoxX w4 pk kd XV.zero):=by unfold Hid;rw [aA];exact bB.out.of (E.block _ bR (by omega))
 have c5:Hid (BoxX w4 w.heap.size 0 XV.zero):=c6.out.of (E.block _ (by omega) (by omega));have aY:Hid (Bt pb w.heap.size w w4):=ae.out.trans (E.mono (by omega));have bT:w.heap.size<pk:=by omega
 have bf:pk<w4.heap.size:=aP.out.lt;rw [← aA];obtain ⟨z0,z1,z2,z3,z4,z5,z6,z7,z8,z9,b7,b6,b5⟩:=aP.out.cells;obtain ⟨hq,bj⟩:∃ q,q=hereI ts en (i+1):=⟨_,rfl⟩;rw [← bj];clear bp E b9 aA bj;obtain ⟨sB,be⟩:∃ sB,sB=fieldsS kd:=⟨_,rfl⟩;have aJ:Hid (sB=fieldsS kd):=be;obtain ⟨I0,am⟩:∃ I0,I0=w4.iter sB 0:=⟨_,rfl⟩;have cf:Hid (I0=w4.iter sB 0):=am;have al:Below w4.heap.size w4 I0:=by rw [am];exact (Below.refl _ _).alloc (Nat.le_refl _) _
 obtain ⟨it,ak⟩:∃ it,it=w4.heap.size:=⟨_,rfl⟩;have ce:Hid (it=w4.heap.size):=ak;have aX:Hid (I0.heap[it]?=some (.stringIter sB 0)):=by unfold Hid;rw [am,ak];exact World.iter_heap w4 _ _
 have bQ:I0.heap.size=it+1:=by rw [am,ak];exact World.size_alloc w4 _
 have cm:pk<it:=by rw [ak];exact bf
 have ah:Hid (SsX base pb g ts gs w pk (it+1)):=⟨bC.out,aM,by omega,by omega⟩
 have aW:Hid (StX pb g ts gs en w (i+2) pk (it+1) kd I0 XV.zero (AX.kd kd) (fun _=>[]) (i+2)):=by
  refine ⟨aY.out.trans (Bt.of_below (al.mono (by omega))),aP.out.of (al.block _ bf),⟨?_,?_,OwSk.nil _,OwSk.nil _,OwSk.nil _,OwSk.nil _⟩,Se6.nil _ _ _ _ _ _ _,cb.out.below al,by omega⟩
  · exact (OwnR.leaf ts gs 0 0 0 I0 5 0).ow
  exact (OwnR.leaf ts gs 0 0 0 I0 5 0).ow
 have bZ:Hid (BoxX I0 w.heap.size 0 XV.zero):=c5.out.of (al.block _ (by omega));clear bQ al am ak be;go_wp2_with (first | (go_at_call 31;refine (axiomFields_any _ _).mono ?_;rintro e w' ⟨rfl,hw⟩;rw [hw,← aJ.out];clear hw) | fail);rw [← cf.out,← ce.out];clear z0 z1 z2 z3 z4 z5 z6 z7 z8 z9 b7 b6 b5;go_loopw [6] (fun _ wr=>∃ (q:Nat) (V:XV) (x:AX) (Ls:Nat→List (Addr × IntKind)) (j:Nat),q≤(fieldsN kd).length∧wr.heap[it]?=some (.stringIter sB q)∧StX pb g ts gs en w (i+2) pk (it+1) kd wr V x Ls j∧BoxX wr w.heap.size 0 XV.zero∧fieldsR ts en ((fieldsN kd).drop q) x j=fieldsR ts en (fieldsN kd) (AX.kd kd) (i+2)∧i+2≤j∧j≤ts.length) (fun _ wr=>(fieldsN kd).length - posOf wr it)
 case atStart=>exact ⟨0,XV.zero,AX.kd kd,fun _=>[],i+2,Nat.zero_le _,aX.out,aW.out,bZ.out,rfl,Nat.le_refl _,by omega⟩
 case round =>
  obtain ⟨q,V,x,Ls,j,cl,ar,bd,hz,bk,bW,bi⟩:=hrel
  rename World=>wo
  have aK:Hid (wo.heap[it]?=some (.stringIter sB q)):=ar;have D:Hid (StX pb g ts gs en w (i+2) pk (it+1) kd wo V x Ls j):=bd;have HZ:Hid (BoxX wo w.heap.size 0 XV.zero):=hz;have HF:Hid (fieldsR ts en ((fieldsN kd).drop q) x j=fieldsR ts en (fieldsN kd) (AX.kd kd) (i+2)):=bk;clear ar bd hz bk;by_cases hlt2:q<sB.size
  · have az:q<(fieldsN kd).length:=by rw [← fieldsN_size,← aJ.out];exact hlt2
    obtain ⟨f,hf⟩:∃ f,f=(fieldsN kd).getD q 0:=⟨_,rfl⟩
    have aF:(sB[q]'hlt2).toNat=f∧(sB[q]'hlt2).toNat<128∧(f=67∨f=68∨f=82∨f=83∨f=65∨f=66):=by
     have hs:=aJ.out;subst hs;rw [hf];exact fieldsN_at kd q hlt2
    have cg:Hid (f=67∨f=68∨f=82∨f=83∨f=65∨f=66):=aF.2.2
    have bN:Hid ((fieldsN kd).drop q=f :: (fieldsN kd).drop (q+1)):=by
     unfold Hid;rw [List.drop_eq_getElem_cons az,hf];simp [List.getD,az]
    obtain ⟨N0,hN⟩:∃ W,W=wo.iterAt it sB (q+1):=⟨_,rfl⟩
    have aB:∀ ty,(Instr.next (.pointer (some ⟨it,0,none⟩)) true ty).run Tryz.prog wo=.ok (.tuple #[.bool true,.int .i64 q,.int .i32 (f:Nat)]) N0:=fun ty=>by
     rw [hN,← aF.1];exact Lib.run_next_ascii_at wo it sB q ty aK.out hlt2 aF.2.1
    have bL:Hid (N0.heap[it]?=some (.stringIter sB (q+1))):=by unfold Hid;rw [hN];exact Lib.iterAt_heap _ _ _ _ _ aK.out
    have aV:Hid (StX pb g ts gs en w (i+2) pk (it+1) kd N0 V x Ls j):=by unfold Hid;rw [hN];exact D.out.iter ah.out (by omega) (Nat.lt_succ_self _) sB (q+1)
    have bs:Hid (BoxX N0 w.heap.size 0 XV.zero):=by unfold Hid;rw [hN];exact HZ.out.of (Lib.iterAt_other _ _ _ _ _ (by omega))
    clear hN aF hf;go_wp2_with fail;refine (field_any f cg.out ah.out aV.out bW bi).mono ?_;rintro e w6 hP;cases z:fieldR ts en f x j with
    | bad a =>
     rw [z] at hP;obtain ⟨he,bm⟩:=hP;subst he
     have HC:Hid (axR ts en i=.bad a):=by
      unfold Hid;rw [aR.out,← HF.out,bN.out];simp only [fieldsR];rw [z];rfl
     have A:Hid (Bt pb w.heap.size w w6):=bm;clear bm aB;simp only [gaveUp];go_wp2;exact ⟨rfl,AxP.fell A.out HC.out rfl⟩
    | ok x' j' =>
     rw [z] at hP;obtain ⟨he,⟨aS,ad⟩,V',Ls',aq⟩:=hP;subst he;have aU:=fieldR_end z;have bM:Hid (w6.heap[it]?=some (.stringIter sB (q+1))):=(ad it (Array.getElem?_eq_some_iff.1 bL.out).1 (by omega) (by omega)).trans bL.out;have c4:Hid (BoxX w6 w.heap.size 0 XV.zero):=bs.out.of (ad _ bs.out.lt (by omega) (by omega));have c8:Hid (StX pb g ts gs en w (i+2) pk (it+1) kd w6 V' x' Ls' j'):=aq
     have ch:Hid (fieldsR ts en ((fieldsN kd).drop (q+1)) x' j'=fieldsR ts en (fieldsN kd) (AX.kd kd) (i+2)):=by
      unfold Hid;rw [← HF.out,bN.out];simp only [fieldsR];rw [z]
     have cp:posOf wo it=q:=posOf_at aK.out;have co:posOf w6 it=q+1:=posOf_at bM.out;clear aq aS ad aB;go_wp2_with fail;go_roundw
     case rel=>exact ⟨q+1,V',x',Ls',j',az,bM.out,c8.out,c4.out,ch.out,by omega,aU.2⟩
     case measure=>omega
  have aB:∀ ty,(Instr.next (.pointer (some ⟨it,0,none⟩)) true ty).run Tryz.prog wo=.ok (.tuple #[.bool false]) wo:=fun ty=>Lib.run_next_end_at wo it sB q ty aK.out hlt2
  have aQ:Hid (fieldsR ts en (fieldsN kd) (AX.kd kd) (i+2)=.ok x j):=by
   have hs:=fieldsN_size kd;rw [← aJ.out] at hs;unfold Hid;rw [← HF.out,List.drop_eq_nil_of_le (by omega)];rfl
  have bP:x.kind=kd:=fieldsR_kind aQ.out;go_wp2_with fail;clear aB;cases h4:isI ts 4 j
  · have HC:Hid (axR ts en i=.bad (hereI ts en j)):=by unfold Hid;rw [aR.out,aQ.out,closeX,if_neg (by simp [h4])]
    refine (take_bad base pb g j ts gs en 4 _ D.out.rdr (D.out.tk ah.out) bi h4).mono ?_;rintro e w5 ⟨rfl,af⟩;have A:Hid (Bt pb w.heap.size w w5):=D.out.bt.trans (Bt.of_below (af.mono D.out.bt.size));clear af;simp only [gaveUp];go_wp2;exact ⟨rfl,AxP.fell A.out HC.out rfl⟩
  have HC:Hid (axR ts en i=.ok x (j+1)):=by unfold Hid;rw [aR.out,aQ.out,closeX,if_pos h4]
  refine (take_ok base pb g j ts gs en 4 _ D.out.rdr (D.out.tk ah.out) h4).mono ?_;rintro e w5 ⟨rfl,bo,af⟩
  obtain ⟨ya,yn,yc,b8⟩:∃ ya yn yc,txv (ts.getD j Tok.zero) (gs.getD j (0,0))=.slice ya yn yc:=by
   obtain ⟨a,c,h⟩:=txv_form (ts.getD j Tok.zero) (gs.getD j (0,0));exact ⟨_,_,_,h⟩
  rw [b8];obtain ⟨az,au⟩:∃ q,q=hereI ts en j:=⟨_,rfl⟩;rw [← au];have aG:StX pb g ts gs en w (i+2) pk (it+1) kd w5 V x Ls (j+1):=D.out.next ah.out af (Nat.le_succ _) bo;have bu:Hid (BoxX w5 w.heap.size 0 XV.zero):=HZ.out.of (af.block _ HZ.out.lt (by omega));obtain ⟨ck,ab,a8,a9,a7,a5,a6,a0,Y,Z,dk,X,T,U,O,J,N,I,G,H,ra,rn,rc,sa,sn,sc,aa,an,ac,ba,bn,bc,hV⟩:=aG.pa.forms;subst hV;have c9:Hid (StX pb g ts gs en w (i+2) pk (it+1) kd w5 _ x Ls (j+1)):=aG;obtain ⟨z0,z1,z2,z3,z4,z5,z6,z7,z8,z9,b7,b6,b5⟩:=aG.box.cells;clear bo af b8 au aG;have HE:=c9.out.fin (i:=i) ah.out (by omega) bT bP HC.out #[.int .i64 kd,.int .i64 ck,.slice ab a8 a9,.slice a7 a5 a6,.slice a0 Y Z,.int .i64 dk,.slice X T U,.slice O J N,.slice I G H,.slice ra rn rc,.slice sa sn sc,.slice aa an ac,.slice ba bn bc] rfl;have HE:Hid _:=HE;have ca:Hid ((w5.setRow w.heap.size #[.int .i64 kd,.int .i64 ck,.slice ab a8 a9,.slice a7 a5 a6,.slice a0 Y Z,.int .i64 dk,.slice X T U,.slice O J N,.slice I G H,.slice ra rn rc,.slice sa sn sc,.slice aa an ac,.slice ba bn bc]).heap[w.heap.size]?=some (.cells #[.int .i64 kd,.int .i64 ck,.slice ab a8 a9,.slice a7 a5 a6,.slice a0 Y Z,.int .i64 dk,.slice X T U,.slice O J N,.slice I G H,.slice ra rn rc,.slice sa sn sc,.slice aa an ac,.slice ba bn bc] 39 (0,0))):=setRow_heap w5 w.heap.size zeroX _ _ _ bu.out
  go_wp2_with (first | (refine wpList_store_row rfl 39 (.tmp 2) (.tmp 33) rfl w.heap.size #[.int .i64 kd,.int .i64 ck,.slice ab a8 a9,.slice a7 a5 a6,.slice a0 Y Z,.int .i64 dk,.slice X T U,.slice O J N,.slice I G H,.slice ra rn rc,.slice sa sn sc,.slice aa an ac,.slice ba bn bc] rfl rfl 39 zeroX bu.out infoX13 rfl (by simp [Value.oneCell']) ?_) | fail);refine bodyPost_ret (v:=.agg #[.int .i64 kd,.int .i64 ck,.slice ab a8 a9,.slice a7 a5 a6,.slice a0 Y Z,.int .i64 dk,.slice X T U,.slice O J N,.slice I G H,.slice ra rn rc,.slice sa sn sc,.slice aa an ac,.slice ba bn bc]) (results_cell_row rfl _ _ w.heap.size 39 _ (0,0) _ rfl ca.out Tryz.underlying39 rfl infoX13) rfl ?_;exact HE.out
end Go.Proofs.YtocpeiaolofodaaGreat
