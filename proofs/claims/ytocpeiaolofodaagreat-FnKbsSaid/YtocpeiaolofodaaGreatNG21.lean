/- Several texts in one: ReadI7, ReadI8, LawWords, LawTok. -/
import Derived.Test.YtocpeiaolofodaaGreatNG20
import Derived.Test.YtocpeiaolofodaaGreatNG14
import Derived.Test.YtocpeiaolofodaaGreatNG10
import Derived.Lib.SlBytesConst
import Derived.Test.YtocpeiaolofodaaGreatNG3
import Derived.Test.YtocpeiaolofodaaGreatNG16
namespace Go.Proofs.YtocpeiaolofodaaGreat

section
open Go.RowKit
theorem set5_mem {vb bb:Nat} (aP:vb<bb) {v0 v1 v2 v3:Value} {z:Int} {W:World} (hv:BoxC W vb v0 v1 v2 v3) (hb:BoxI W bb z) (x0 x1 x2 x3:Value) (p:Int) :
    Below vb W (((((W.setCell ⟨vb,0,none⟩ x0).setCell ⟨vb,1,none⟩ x1).setCell ⟨vb,2,none⟩ x2).setCell ⟨vb,3,none⟩ x3).setCell ⟨bb,0,none⟩ (.int .i64 p))∧BoxC (((((W.setCell ⟨vb,0,none⟩ x0).setCell ⟨vb,1,none⟩ x1).setCell ⟨vb,2,none⟩ x2).setCell ⟨vb,3,none⟩ x3).setCell ⟨bb,0,none⟩ (.int .i64 p)) vb x0 x1 x2 x3∧BoxI (((((W.setCell ⟨vb,0,none⟩ x0).setCell ⟨vb,1,none⟩ x1).setCell ⟨vb,2,none⟩ x2).setCell ⟨vb,3,none⟩ x3).setCell ⟨bb,0,none⟩ (.int .i64 p)) bb p:=by
 have h1:=hv.set4 x0 x1 x2 x3;have h3:BoxI ((((W.setCell ⟨vb,0,none⟩ x0).setCell ⟨vb,1,none⟩ x1).setCell ⟨vb,2,none⟩ x2).setCell ⟨vb,3,none⟩ x3) bb z:=hb.of (heap_set4 _ _ _ _ _ (by omega));exact ⟨(((((Below.refl vb W).setCell (Nat.le_refl _) _).setCell (Nat.le_refl _) _).setCell (Nat.le_refl _) _).setCell (Nat.le_refl _) _).setCell (Nat.le_of_lt aP) _,h1.other _ (by omega),h3.set p⟩
theorem OwnT.set {base:Nat} {w:World} {v:Value} {ts:List Tok} {gs:List (Nat × Nat)} (h:OwnT base w v ts gs) {o i:Nat} (ho:o<base) (x:Value):OwnT base (w.setCell ⟨o,i,none⟩ x) v ts gs :=
 ⟨h.len,ownsRow_setCell_below h.row (a:=⟨o,i,none⟩) ho x,fun j hj ht=>⟨(h.txt j hj ht).1,(h.txt j hj ht).2.1.setOf (a:=⟨o,i,none⟩) (by have:=(h.txt j hj ht).1;show _≠o;omega),(h.txt j hj ht).2.2⟩,h.byte,h.dist⟩
theorem OwnC.none (base:Nat) (w:World) (d:Nat):OwnC base w (d+1) (.agg #[.int .i64 0,.slice none 0 0,.slice none 0 0,.slice none 0 0]) CN.zero []:=by
 have h:=OwnR.leaf [] [] 0 0 0 w d 0;exact ⟨h.ow,h.nd,h.fr,fun x hx=>by simp at hx⟩
def AnsP (w:World) (r:CN × Int) (e:Ending) (w':World):Prop:=∃ v L,e=.returned (.tuple #[v,.int .i64 r.2])∧OwnC w.heap.size w' 6 v r.1 L∧Below w.heap.size w w'
theorem AnsP.mk {w w':World} {r:CN × Int} {c:CN} {p:Int} {v:Value} {L:List (Addr × IntKind)} (hr:r=(c,p)) (hO:OwnC w.heap.size w' 6 v c L) (hB:Below w.heap.size w w'):AnsP w r (.returned (.tuple #[v,.int .i64 p])) w':=by
 subst hr;exact ⟨v,L,rfl,hO,hB⟩
set_option maxRecDepth 100000 in
set_option maxHeartbeats 2000000 in
theorem readWhole_any (b off n Y:Nat) (zs:List Int) (w:World) (h:Rd 0 w.heap.size w (some ⟨b,off,none⟩) n Y zs) (hb:b<w.heap.size) :
    Calls Tryz.prog 54 #[.slice (some ⟨b,off,none⟩) n Y,.func (.func 55) #[] #[]] w (AnsP w (wholeR zs)):=by
 have bd:∀ (fn:Fn) (first Y:Array Value) (w:World),(Instr.makeFunc fn first Y).run Tryz.prog w=.ok (.func fn first Y) w:=fun _ _ _ _=>rfl
 have HL:Hid (zs.length=n):=h.len;obtain ⟨ts,bad,ay⟩:∃ ts p,toks zs=(ts,p):=⟨_,_,rfl⟩;have HT:Hid (toks zs=(ts,bad)):=ay;obtain ⟨W0,a3⟩:∃ W0,W0=(w.alloc (.cells #[.int .i64 0,.slice none 0 0,.slice none 0 0,.slice none 0 0] 37)).alloc (.cells #[.int .i64 0] 3):=⟨_,rfl⟩;have aZ:Hid (W0=(w.alloc (.cells #[.int .i64 0,.slice none 0 0,.slice none 0 0,.slice none 0 0] 37)).alloc (.cells #[.int .i64 0] 3)):=a3;have a5:Below w.heap.size w W0:=by rw [a3];exact ((Below.refl _ _).alloc (Nat.le_refl _) _).alloc (by simp) _
 have aN:Hid (Below w.heap.size w W0):=a5;have aE:Hid (W0.heap.size=w.heap.size+2):=by unfold Hid;rw [a3];simp
 have aD:Hid (BoxC W0 w.heap.size (.int .i64 0) (.slice none 0 0) (.slice none 0 0) (.slice none 0 0)):=by
  unfold Hid;rw [a3];exact (BoxC.new w _ _ _ _).below ((Below.refl _ _).alloc (Nat.le_refl _) _) (by simp)
 have aJ:Hid (BoxI W0 (w.heap.size+1) 0):=by
  unfold Hid;rw [a3];have:=BoxI.new (w.alloc (.cells #[.int .i64 0,.slice none 0 0,.slice none 0 0,.slice none 0 0] 37)) 0
  rwa [World.size_alloc] at this
 have b4:Hid (Rd 0 W0.heap.size W0 (some ⟨b,off,none⟩) n Y zs):=(h.below a5 (Nat.le_refl _)).mono (Nat.le_refl _) a5.size;have aV:b<W0.heap.size:=Nat.lt_of_lt_of_le hb a5.size;clear h ay a5 a3;go_enter_defers Tryz.func54, Tryz.ntmps54;go_wp2_with fail;rw [← aZ.out];refine (implTok_at b off n Y zs ts bad HT.out W0 b4.out aV).mono ?_;rintro e w1 ⟨aI,cI,gs,rfl,hO,_,aa⟩;have HO:Hid (OwnT W0.heap.size w1 (.slice aI ts.length cI) ts gs):=hO;have aM:Hid (Below w.heap.size w w1):=aN.out.trans (aa.mono aN.out.size);have aC:Hid (BoxC w1 w.heap.size (.int .i64 0) (.slice none 0 0) (.slice none 0 0) (.slice none 0 0)):=aD.out.below aa aD.out.lt;have a6:Hid (BoxI w1 (w.heap.size+1) 0):=aJ.out.of (aa.block _ aJ.out.lt);have ba:w.heap.size+1<w1.heap.size:=a6.out.lt;have i0:=a6.out.cell;have a8:=a6.out.frz 0;have a7:w.heap.size≠w.heap.size+1:=by omega
 clear hO aa;by_cases hbad:bad=-1
 · subst hbad;obtain ⟨Wb,D⟩:∃ W,W=w1.setCell ⟨w.heap.size+1,0,none⟩ (.int .i64 (-1)):=⟨_,rfl⟩;have ao:Hid (Wb=w1.setCell ⟨w.heap.size+1,0,none⟩ (.int .i64 (-1))):=D;have F:Hid (BoxC Wb w.heap.size (.int .i64 0) (.slice none 0 0) (.slice none 0 0) (.slice none 0 0)):=by unfold Hid;rw [D];exact aC.out.other _ a7
   have a1:Hid (BoxI Wb (w.heap.size+1) (-1)):=by unfold Hid;rw [D];exact a6.out.set (-1)
   have ar:Hid (Below w.heap.size w Wb):=by unfold Hid;rw [D];exact aM.out.setCell (by show w.heap.size≤w.heap.size+1;omega) _
   have b5:Hid (OwnT W0.heap.size Wb (.slice aI ts.length cI) ts gs):=by unfold Hid;rw [D];exact HO.out.set (by have:=aE.out;omega) _
   have aO:w.heap.size+1<Wb.heap.size:=a1.out.lt;obtain ⟨a',c',g,hv,ha,aU,aT,aA⟩:=b5.out.tkm (pb:=Wb.heap.size) (Nat.le_refl _);simp only [Value.slice.injEq,true_and] at hv;obtain ⟨rfl,rfl⟩:=hv;obtain ⟨W2,ab⟩:∃ W,W=Wb.alloc (.cells #[.slice aI ts.length cI,.int .i64 n] 85):=⟨_,rfl⟩;have aY:Hid (W2=Wb.alloc (.cells #[.slice aI ts.length cI,.int .i64 n] 85)):=ab;have a4:Below Wb.heap.size Wb W2:=by rw [ab];exact (Below.refl _ _).alloc (Nat.le_refl _) _
   have aH:Hid (RdrAt W2 Wb.heap.size g 0 ts n):=by
    refine ⟨aI,cI,?_,?_,aU,aT⟩
    · rw [ab];exact BoxR.new Wb _ _
    rcases ha with h | h
    · exact .inl h
    exact .inr (by rw [h])
   have ae:Hid (TkM W0.heap.size Wb.heap.size W2 g ts gs):=aA.below a4;have ad:Hid (BoxC W2 w.heap.size (.int .i64 0) (.slice none 0 0) (.slice none 0 0) (.slice none 0 0)):=F.out.below a4 F.out.lt;have ag:Hid (BoxI W2 (w.heap.size+1) (-1)):=a1.out.of (a4.block _ aO);have aL:Hid (Below w.heap.size w W2):=ar.out.trans (a4.mono (by omega));have b9:Wb.heap.size<W2.heap.size:=aH.out.lt;clear D ab a4 aA ha;go_upto_region 2 with fail;rw [← ao.out];clear i0 a8;have i0:=a1.out.cell;go_wp2_with fail;rw [← aY.out];clear i0;refine (read1_any W0.heap.size Wb.heap.size g ts gs n W2 aH.out ae.out).mono ?_;rintro e w3 hP;cases A:conR ts (n:Nat) 6 0 with
   | bad p =>
    rw [A] at hP;obtain ⟨E,he⟩:=hP;subst he;have Z:Hid (wholeR zs=(CN.zero,p)):=wholeR_bad HT.out HL.out A;have X:Hid (BoxC w3 w.heap.size (.int .i64 0) (.slice none 0 0) (.slice none 0 0) (.slice none 0 0)):=(E.block _ ad.out.lt (by omega)).trans ad.out;have aq:Hid (BoxI w3 (w.heap.size+1) (-1)):=ag.out.of (E.block _ ag.out.lt (by omega));have au:Hid (Below w.heap.size w w3):=aL.out.trans (E.below (by omega) (by omega));clear E;simp only [gaveUp];go_wp2_with fail;refine leaves_cons (f:=80) (args:=#[.pointer (some ⟨w.heap.size,0,none⟩),.pointer (some ⟨w.heap.size+1,0,none⟩)]) (by simp) (by simp [go_sem]) ?_;refine (catch_gaveUp w.heap.size (w.heap.size+1) (Nat.lt_succ_self _) _ _ _ _ _ p [] w3 X.out aq.out).mono ?_;rintro e u' w'' ⟨rfl,rfl,hB,hV,hI⟩;obtain ⟨s0,s1,s2,s3⟩:=hV.cells;have si:=hI.cell;refine ⟨.tuple #[.agg #[.int .i64 0,.slice none 0 0,.slice none 0 0,.slice none 0 0],.int .i64 (p)],by simp [results, Tryz.results54,go_sem,s0,s1,s2,s3,si],AnsP.mk Z.out (OwnC.none _ _ _) (au.out.trans (hB.mono (Nat.le_refl _)))⟩
   | ok c j =>
    rw [A] at hP;obtain ⟨E,v,L,he,ac,aB⟩:=hP;subst he;obtain ⟨O,J,N,I,G,H,V,T,U,rfl⟩:=ac.ow.agg;obtain ⟨zk,al⟩:∃ zk,zk=c.kind:=⟨_,rfl⟩;rw [← al] at ac;rw [← al];have aS:=conR_end ts (n:Nat) 6 0 c j A;have X:Hid (BoxC w3 w.heap.size (.int .i64 0) (.slice none 0 0) (.slice none 0 0) (.slice none 0 0)):=(E.block _ ad.out.lt (by omega)).trans ad.out;have aq:Hid (BoxI w3 (w.heap.size+1) (-1)):=ag.out.of (E.block _ ag.out.lt (by omega));have au:Hid (Below w.heap.size w w3):=aL.out.trans (E.below (by omega) (by omega));have ap:Hid (OwnR ts gs 0 j W2.heap.size w3 6 (.agg #[.int .i64 zk,.slice O J N,.slice I G H,.slice V T U]) c L):=ac;have aG:Hid (RdrAt w3 Wb.heap.size g j ts n):=aB;obtain ⟨W4,a2⟩:∃ W,W=((((w3.setCell ⟨w.heap.size,0,none⟩ (.int .i64 zk)).setCell ⟨w.heap.size,1,none⟩ (.slice O J N)).setCell ⟨w.heap.size,2,none⟩ (.slice I G H)).setCell ⟨w.heap.size,3,none⟩ (.slice V T U)):=⟨_,rfl⟩;have aX:Hid (W4=((((w3.setCell ⟨w.heap.size,0,none⟩ (.int .i64 zk)).setCell ⟨w.heap.size,1,none⟩ (.slice O J N)).setCell ⟨w.heap.size,2,none⟩ (.slice I G H)).setCell ⟨w.heap.size,3,none⟩ (.slice V T U))):=a2;have a9:∀ q,q≠w.heap.size→W4.heap[q]?=w3.heap[q]?:=fun q hq=>by rw [a2];exact heap_set4 _ _ _ _ _ hq
    have b8:W4.heap.size=w3.heap.size:=by rw [a2];simp
    have a0:Hid (BoxC W4 w.heap.size (.int .i64 zk) (.slice O J N) (.slice I G H) (.slice V T U)):=by unfold Hid;rw [a2];exact X.out.set4 _ _ _ _
    have af:Hid (BoxI W4 (w.heap.size+1) (-1)):=aq.out.of (a9 _ (by omega));have aF:Hid (RdrAt W4 Wb.heap.size g j ts n):=aG.out.of (a9 _ (by omega));have aK:Hid (Below w.heap.size w W4):=by unfold Hid;rw [a2];exact (((au.out.setCell (Nat.le_refl _) _).setCell (Nat.le_refl _) _).setCell (Nat.le_refl _) _).setCell (Nat.le_refl _) _
    have bc:=aE.out;have am:=ap.out.us.ge ae.out (by omega);have aR:=ap.out.us.lt ae.out (by have:=aG.out.lt;omega);have b6:Hid (OwnR ts gs 0 j W2.heap.size W4 6 (.agg #[.int .i64 zk,.slice O J N,.slice I G H,.slice V T U]) c L):=ap.out.to (fun x hx=>a9 _ (by have:=am x hx;omega)) (by omega);have b3:Hid (TkM W0.heap.size Wb.heap.size w3 g ts gs):=ae.out.bt E (by omega);obtain ⟨v0,v1,v2,v3⟩:=X.out.cells;have ak:=X.out.frz 0;have aj:=X.out.frz 1;have ai:=X.out.frz 2;have ah:=X.out.frz 3;have b2:Hid (TkM W0.heap.size Wb.heap.size W4 g ts gs):=b3.out.keep (fun q hq _=>a9 q (by omega));clear E ac aB al a2;go_upto_region 7 with fail;rw [← aX.out];clear v0 v1 v2 v3 ak aj ai ah;obtain ⟨ra,rc,az,aW,av,b7⟩:=aF.out;obtain ⟨r0,r1⟩:=az.cells;obtain ⟨m,hm⟩:∃ m,m=ts.length - j:=⟨_,rfl⟩;rw [← hm] at r0;have HM:Hid (m=ts.length - j):=hm;clear hm az aW av;by_cases hj:j<ts.length
    · have aQ:(0:Int)<(m:Int):=by have:=HM.out;omega
      have Z:Hid (wholeR zs=(CN.zero,hereI ts (n:Nat) j)):=wholeR_more HT.out HL.out A hj;go_wp2_with fail;refine (here_any W0.heap.size Wb.heap.size g j ts gs n W4 aF.out b2.out aS.2).mono ?_;rintro e w5 ⟨rfl,ax⟩;rw [ax];clear ax;go_wp2_with fail;refine leaves_cons (f:=80) (args:=#[.pointer (some ⟨w.heap.size,0,none⟩),.pointer (some ⟨w.heap.size+1,0,none⟩)]) (by simp) (by simp [go_sem]) ?_;refine (catch_gaveUp w.heap.size (w.heap.size+1) (Nat.lt_succ_self _) _ _ _ _ _ (hereI ts (n:Nat) j) [] W4 a0.out af.out).mono ?_;rintro e u' w'' ⟨rfl,rfl,hB,hV,hI⟩;obtain ⟨s0,s1,s2,s3⟩:=hV.cells;have si:=hI.cell;refine ⟨.tuple #[.agg #[.int .i64 0,.slice none 0 0,.slice none 0 0,.slice none 0 0],.int .i64 ((hereI ts (n:Nat) j))],by simp [results, Tryz.results54,go_sem,s0,s1,s2,s3,si],AnsP.mk Z.out (OwnC.none _ _ _) (aK.out.trans (hB.mono (Nat.le_refl _)))⟩
    have aQ:¬ (0:Int)<(m:Int):=by have:=HM.out;omega
    have Z:Hid (wholeR zs=(c,-1)):=wholeR_ok HT.out HL.out A hj;obtain ⟨v0,v1,v2,v3⟩:=a0.out.cells;have ak:=a0.out.frz 0;have aj:=a0.out.frz 1;have ai:=a0.out.frz 2;have ah:=a0.out.frz 3;have i0:=af.out.cell;have a8:=af.out.frz 0;go_wp2_with fail;refine leaves_cons (f:=80) (args:=#[.pointer (some ⟨w.heap.size,0,none⟩),.pointer (some ⟨w.heap.size+1,0,none⟩)]) (by simp) (by simp [go_sem]) ?_;refine (catch_none w.heap.size (w.heap.size+1) _).mono ?_;rintro e u' w'' ⟨rfl,rfl,rfl⟩;obtain ⟨hB,hV,hI⟩:=set5_mem (Nat.lt_succ_self w.heap.size) a0.out af.out (.int .i64 zk) (.slice O J N) (.slice I G H) (.slice V T U) (-1);obtain ⟨s0,s1,s2,s3⟩:=hV.cells;have si:=hI.cell;refine ⟨.tuple #[.agg #[.int .i64 zk,.slice O J N,.slice I G H,.slice V T U],.int .i64 (-1)],by simp [results, Tryz.results54,go_sem,s0,s1,s2,s3,si],AnsP.mk (L:=L) Z.out ?_ (aK.out.trans hB)⟩
    have hk:∀ x∈L,((((((W4.setCell ⟨w.heap.size,0,none⟩ (.int .i64 zk)).setCell ⟨w.heap.size,1,none⟩ (.slice O J N)).setCell ⟨w.heap.size,2,none⟩ (.slice I G H)).setCell ⟨w.heap.size,3,none⟩ (.slice V T U)).setCell ⟨w.heap.size+1,0,none⟩ (.int .i64 (-1)))).heap[x.1.block]?=W4.heap[x.1.block]?:=fun x hx=>by
     have h1:=am x hx;rw [Below.heap_setCell _ ⟨w.heap.size+1,0,none⟩ _ _ (by show _≠w.heap.size+1;omega)];exact heap_set4 _ _ _ _ _ (by omega)
    have an:=b6.out.to hk (by simp);exact ⟨an.ow,an.nd,an.fr,fun x hx=>⟨by have:=am x hx;omega,by have:=aR x hx;simp;omega⟩⟩
 have be:(bad != -1)=true:=by simpa using hbad
 obtain ⟨Wb,D⟩:∃ W,W=w1.setCell ⟨w.heap.size+1,0,none⟩ (.int .i64 bad):=⟨_,rfl⟩;have ao:Hid (Wb=w1.setCell ⟨w.heap.size+1,0,none⟩ (.int .i64 bad)):=D;have F:Hid (BoxC Wb w.heap.size (.int .i64 0) (.slice none 0 0) (.slice none 0 0) (.slice none 0 0)):=by unfold Hid;rw [D];exact aC.out.other _ a7
 have a1:Hid (BoxI Wb (w.heap.size+1) bad):=by unfold Hid;rw [D];exact a6.out.set bad
 have ar:Hid (Below w.heap.size w Wb):=by unfold Hid;rw [D];exact aM.out.setCell (by show w.heap.size≤w.heap.size+1;omega) _
 clear D;go_upto_region 2 with fail;rw [← ao.out];obtain ⟨v0,v1,v2,v3⟩:=F.out.cells;have ak:=F.out.frz 0;have aj:=F.out.frz 1;have ai:=F.out.frz 2;have ah:=F.out.frz 3;clear i0 a8;have i0:=a1.out.cell;have a8:=a1.out.frz 0;have Z:Hid (wholeR zs=(CN.zero,bad)):=wholeR_tok HT.out hbad;go_wp2_with fail;go_region;go_wp2;obtain ⟨hB,hV,hI⟩:=set5_mem (Nat.lt_succ_self w.heap.size) F.out a1.out (.int .i64 0) (.slice none 0 0) (.slice none 0 0) (.slice none 0 0) bad;obtain ⟨s0,s1,s2,s3⟩:=hV.cells;have si:=hI.cell;refine ⟨.tuple #[.agg #[.int .i64 0,.slice none 0 0,.slice none 0 0,.slice none 0 0],.int .i64 bad],by simp [results, Tryz.results54,go_sem,s0,s1,s2,s3,si],AnsP.mk Z.out (OwnC.none _ _ _) (ar.out.trans hB).drew⟩
end

section
open Go.RowKit
theorem conRead_fell {zs:List Int} {c:CN} {p:Int} (h:wholeR zs=(c,p)) (hp:p≠-1):conRead zs=(c,p):=by
 unfold conRead;rw [h];rw [if_neg (fun e=>hp e.1)]
theorem conRead_ok {zs:List Int} {c:CN} {p:Int} (h:wholeR zs=(c,p)) (hc:conOk c=true):conRead zs=(c,p):=by
 unfold conRead;rw [h];rw [if_neg (fun e=>by have:=e.2;rw [hc] at this;cases this)]
theorem conRead_no {zs:List Int} {c:CN} {n:Nat} (hl:zs.length=n) (h:wholeR zs=(c,-1)) (hc:conOk c=false):conRead zs=(CN.zero,((n:Nat):Int)):=by
 unfold conRead;rw [h,hl];rw [if_pos ⟨rfl,hc⟩]
set_option maxRecDepth 100000 in
set_option maxHeartbeats 2000000 in
theorem implConRead_any (b off n a6:Nat) (zs:List Int) (w:World) (h:Rd 0 w.heap.size w (some ⟨b,off,none⟩) n a6 zs) (hb:b<w.heap.size) :
    Calls Tryz.prog 29 #[.slice (some ⟨b,off,none⟩) n a6] w (AnsP w (conRead zs)):=by
 have HL:Hid (zs.length=n):=h.len;obtain ⟨c,p,a9⟩:∃ c p,wholeR zs=(c,p):=⟨_,_,rfl⟩;have HW:Hid (wholeR zs=(c,p)):=a9
 have ae:Hid (c.bulk≤1048576):=by
  have:=wholeR_bulk zs (toks_bound zs).1;rw [a9] at this;exact Nat.le_trans this (by omega)
 obtain ⟨W0,a5⟩:∃ W0,W0=w.alloc (.cells #[.int .i64 0,.slice none 0 0,.slice none 0 0,.slice none 0 0] 37):=⟨_,rfl⟩;have ai:Hid (W0=w.alloc (.cells #[.int .i64 0,.slice none 0 0,.slice none 0 0,.slice none 0 0] 37)):=a5;have T:Below w.heap.size w W0:=by rw [a5];exact (Below.refl _ _).alloc (Nat.le_refl _) _
 have af:Hid (Below w.heap.size w W0):=T;have aa:Hid (BoxC W0 w.heap.size (.int .i64 0) (.slice none 0 0) (.slice none 0 0) (.slice none 0 0)):=by unfold Hid;rw [a5];exact BoxC.new w _ _ _ _
 have aj:Hid (w.heap.size<W0.heap.size):=aa.out.lt;have ak:Hid (Rd 0 W0.heap.size W0 (some ⟨b,off,none⟩) n a6 zs):=(h.below T (Nat.le_refl _)).mono (Nat.le_refl _) T.size;have ag:b<W0.heap.size:=Nat.lt_of_lt_of_le hb T.size;clear h T a5 a9;go_enter Tryz.func29, Tryz.ntmps29;go_wp2_with fail;rw [← ai.out];refine (readWhole_any b off n a6 zs W0 ak.out ag).mono ?_;rintro e w1 hA;obtain ⟨v,L,he,hO,a3⟩:=hA;subst he;rw [HW.out] at hO ⊢;obtain ⟨G,E,F,D,z,A,J,H,I,rfl⟩:=hO.ow.agg;obtain ⟨zk,a8⟩:∃ zk,zk=(c,p).1.kind:=⟨_,rfl⟩;rw [← a8] at hO;rw [← a8];have am:Hid (OwnC W0.heap.size w1 6 (.agg #[.int .i64 zk,.slice G E F,.slice D z A,.slice J H I]) c L):=hO;have ad:Hid (BoxC w1 w.heap.size (.int .i64 0) (.slice none 0 0) (.slice none 0 0) (.slice none 0 0)):=aa.out.below a3 aa.out.lt;have ao:Hid (Below w.heap.size w w1):=af.out.trans (a3.mono af.out.size);have aq:=aj.out;have ap:W0.heap.size≤w1.heap.size:=a3.size;obtain ⟨W3,a4⟩:∃ W,W=w1.alloc (.cells #[.int .i64 zk,.slice G E F,.slice D z A,.slice J H I] 37):=⟨_,rfl⟩;have ah:Hid (W3=w1.alloc (.cells #[.int .i64 zk,.slice G E F,.slice D z A,.slice J H I] 37)):=a4;have a2:Below w1.heap.size w1 W3:=by rw [a4];exact (Below.refl _ _).alloc (Nat.le_refl _) _
 have a7:Hid (OwnC W0.heap.size W3 6 (.agg #[.int .i64 zk,.slice G E F,.slice D z A,.slice J H I]) c L):=OwnC.below am.out a2;have N:Hid (BoxC W3 w.heap.size (.int .i64 0) (.slice none 0 0) (.slice none 0 0) (.slice none 0 0)):=ad.out.below a2 ad.out.lt;have ab:Hid (BoxC W3 w1.heap.size (.int .i64 zk) (.slice G E F) (.slice D z A) (.slice J H I)):=by unfold Hid;rw [a4];exact BoxC.new w1 _ _ _ _
 have V:Hid (Below w.heap.size w W3):=ao.out.trans (a2.mono (by omega));clear hO a3 a8 a2 a4;go_upto_region 2 with fail
 try dsimp only
 rw [← ah.out];obtain ⟨c0,c1,c2,c3⟩:=ab.out.cells;obtain ⟨v0,v1,v2,v3⟩:=N.out.cells;have a0:=N.out.frz 0;have Z:=N.out.frz 1;have Y:=N.out.frz 2;have X:=N.out.frz 3;by_cases hp:p=-1
 · subst hp;cases a1:conOk c
   · have U:Hid (conRead zs=(CN.zero,((n:Nat):Int))):=conRead_no HL.out HW.out a1;go_wp2_with fail;refine (implConOk_any (a7.out.rd) (Nat.le_refl _) ae.out).mono ?_;rintro e w4 ⟨rfl,O⟩;rw [a1];have j:Hid (BoxC w4 w.heap.size (.int .i64 0) (.slice none 0 0) (.slice none 0 0) (.slice none 0 0)):=N.out.below O N.out.lt;have ac:Hid (Below w.heap.size w w4):=V.out.trans (O.mono V.out.size);clear O c0 c1 c2 c3 v0 v1 v2 v3 a0 Z Y X;obtain ⟨v0,v1,v2,v3⟩:=j.out.cells;have a0:=j.out.frz 0;have Z:=j.out.frz 1;have Y:=j.out.frz 2;have X:=j.out.frz 3;go_wp2;obtain ⟨s0,s1,s2,s3⟩:=(j.out.set4 (.int .i64 0) (.slice none 0 0) (.slice none 0 0) (.slice none 0 0)).cells;refine bodyPost_ret (v:=.tuple #[.agg #[.int .i64 0,.slice none 0 0,.slice none 0 0,.slice none 0 0],.int .i64 n]) (by simp [results, Tryz.results29,go_sem,s0,s1,s2,s3]) rfl ?_;exact AnsP.mk U.out (OwnC.none _ _ _) ((((ac.out.setCell (Nat.le_refl _) _).setCell (Nat.le_refl _) _).setCell (Nat.le_refl _) _).setCell (Nat.le_refl _) _)
   have U:Hid (conRead zs=(c,-1)):=conRead_ok HW.out a1;go_wp2_with fail;refine (implConOk_any (a7.out.rd) (Nat.le_refl _) ae.out).mono ?_;rintro e w4 ⟨rfl,O⟩;rw [a1];have j:Hid (BoxC w4 w.heap.size (.int .i64 0) (.slice none 0 0) (.slice none 0 0) (.slice none 0 0)):=N.out.below O N.out.lt;have an:Hid (BoxC w4 w1.heap.size (.int .i64 zk) (.slice G E F) (.slice D z A) (.slice J H I)):=ab.out.below O ab.out.lt;have ac:Hid (Below w.heap.size w w4):=V.out.trans (O.mono V.out.size);have al:Hid (OwnC W0.heap.size w4 6 (.agg #[.int .i64 zk,.slice G E F,.slice D z A,.slice J H I]) c L):=OwnC.below a7.out O;clear O c0 c1 c2 c3 v0 v1 v2 v3 a0 Z Y X;obtain ⟨c0,c1,c2,c3⟩:=an.out.cells;obtain ⟨v0,v1,v2,v3⟩:=j.out.cells;have a0:=j.out.frz 0;have Z:=j.out.frz 1;have Y:=j.out.frz 2;have X:=j.out.frz 3;go_wp2;obtain ⟨s0,s1,s2,s3⟩:=(j.out.set4 (.int .i64 zk) (.slice G E F) (.slice D z A) (.slice J H I)).cells;refine bodyPost_ret (v:=.tuple #[.agg #[.int .i64 zk,.slice G E F,.slice D z A,.slice J H I],.int .i64 (-1)]) (by simp [results, Tryz.results29,go_sem,s0,s1,s2,s3]) rfl ?_;refine AnsP.mk (L:=L) U.out ?_ ((((ac.out.setCell (Nat.le_refl _) _).setCell (Nat.le_refl _) _).setCell (Nat.le_refl _) _).setCell (Nat.le_refl _) _);exact (al.out.same (fun q hq _=>heap_set4 _ _ _ _ _ (by omega)) (by simp)).mono (by omega)
 have ar:(p == -1)=false:=by simpa using hp
 have U:Hid (conRead zs=(c,p)):=conRead_fell HW.out hp;go_wp2;obtain ⟨s0,s1,s2,s3⟩:=(N.out.set4 (.int .i64 zk) (.slice G E F) (.slice D z A) (.slice J H I)).cells;refine bodyPost_ret (v:=.tuple #[.agg #[.int .i64 zk,.slice G E F,.slice D z A,.slice J H I],.int .i64 p]) (by simp [results, Tryz.results29,go_sem,s0,s1,s2,s3]) rfl ?_;refine AnsP.mk (L:=L) U.out ?_ ((((V.out.setCell (Nat.le_refl _) _).setCell (Nat.le_refl _) _).setCell (Nat.le_refl _) _).setCell (Nat.le_refl _) _);exact (a7.out.same (fun q hq _=>heap_set4 _ _ _ _ _ (by omega)) (by simp)).mono (by omega)
end

section
open Go.RowKit
theorem rd_lits (w:World) (zs:List Int) (mk:Nat × Nat) (hn:zs.length≤1000) (a5:∀ i,0≤zs.getD i 0∧zs.getD i 0≤255) :
    Rd w.heap.size (w.heap.size+1) (w.alloc (.cells (zs.map (Value.int .u8)).toArray 5 mk)) (some ⟨w.heap.size,0,none⟩) zs.length zs.length zs:=by
 refine ⟨rfl,⟨Nat.le_refl _,by omega⟩,a5,.inr ⟨_,_,rfl,Nat.le_refl _,Nat.lt_succ_self _,fun i hi=>?_⟩⟩
 have hb:(w.alloc (.cells (zs.map (Value.int .u8)).toArray 5 mk)).heap[w.heap.size]?=some (.cells (zs.map (Value.int .u8)).toArray 5 mk):=by
  show (w.heap.push _)[w.heap.size]?=_
  simp
 unfold World.cell?;simp only [];rw [hb];simp [List.getD,hi]
set_option maxHeartbeats 400000 in
theorem same_any (a a':Option Addr) (n X n' cap':Nat) (zs:List Int) (w:World) {lo hi lo' a2:Nat} (h:Rd lo hi w a n X zs) (h':Rd lo' a2 w a' n' cap' zs) :
    Calls Tryz.prog 9 #[.slice a n X,.slice a' n' cap'] w fun e w'=>e=.returned (.bool true)∧w'=w:=by
 have hc:=conv_any h;have a4:=conv_any h';obtain ⟨s,hs⟩:∃ s,s=strOfNums zs:=⟨_,rfl⟩;rw [← hs] at hc a4;have hq:(s.toList == s.toList)=true:=by simp
 clear hs h h';go_enter Tryz.func9, Tryz.ntmps9;go_wp2;go_ret;exact ⟨rfl,rfl⟩
theorem readLit:conRead [83,111,109,101,40,114,32,32,65,41]=(CN.mk 6 [] [114] [CN.mk 2 [65] [] []],-1):=by kernel_rfl
theorem textLit:conText (CN.mk 6 [] [114] [CN.mk 2 [65] [] []])=[83,111,109,101,40,114,32,65,41]:=by kernel_rfl
theorem bulkLit:(CN.mk 6 [] [114] [CN.mk 2 [65] [] []]).bulk≤1048576:=by simp [CN.bulk,bulks]
theorem byteLit {zs:List Int} (h:zs.all (fun x=>decide (0≤x) && decide (x≤255))=true):∀ i,0≤zs.getD i 0∧zs.getD i 0≤255:=by
 intro i;by_cases hi:i<zs.length
 · have:=List.all_eq_true.1 h _ (List.getElem_mem hi);simp only [Bool.and_eq_true,decide_eq_true_eq] at this;simpa [List.getD,hi] using this
 simp [List.getD,List.getElem?_eq_none (Nat.le_of_not_lt hi)]
set_option maxRecDepth 100000 in
set_option maxHeartbeats 1000000 in
theorem words_any (w:World):Calls Tryz.prog 11 #[] w fun e w'=>e=.returned (.bool true)∧Below w.heap.size w w':=by
 have kc:=Lib.run_convert_bytes_const (P:=Tryz.prog) w 22 5 #[.int .u8 83,.int .u8 111,.int .u8 109,.int .u8 101,.int .u8 40,.int .u8 114,.int .u8 32,.int .u8 32,.int .u8 65,.int .u8 41] 10 10 Tryz.underlying22 Tryz.underlying5;obtain ⟨W0,z⟩:∃ W,W=w.alloc (.cells #[.int .u8 83,.int .u8 111,.int .u8 109,.int .u8 101,.int .u8 40,.int .u8 114,.int .u8 32,.int .u8 32,.int .u8 65,.int .u8 41] 5 (10,11)):=⟨_,rfl⟩;have a6:Hid (W0=w.alloc (.cells #[.int .u8 83,.int .u8 111,.int .u8 109,.int .u8 101,.int .u8 40,.int .u8 114,.int .u8 32,.int .u8 32,.int .u8 65,.int .u8 41] 5 (10,11))):=z
 have ab:Hid (Rd w.heap.size (w.heap.size+1) W0 (some ⟨w.heap.size,0,none⟩) 10 10 [83,111,109,101,40,114,32,32,65,41]):=by
  unfold Hid;rw [z];exact rd_lits w [83,111,109,101,40,114,32,32,65,41] (10,11) (by simp) (byteLit (by decide))
 have ae:Hid (Below w.heap.size w W0):=by unfold Hid;rw [z];exact (Below.refl _ _).alloc (Nat.le_refl _) _
 have T:w.heap.size<W0.heap.size:=by rw [z];simp
 clear z;go_enter Tryz.func11, Tryz.ntmps11;go_wp2_with fail;rw [← a6.out];refine (implConRead_any w.heap.size 0 10 10 _ W0 (ab.out.mono (Nat.zero_le _) T) T).mono ?_;rintro e w1 hA;rw [readLit] at hA;obtain ⟨v,L,rfl,hO,F⟩:=hA;obtain ⟨c,hc⟩:∃ c,c=CN.mk 6 [] [114] [CN.mk 2 [65] [] []]:=⟨_,rfl⟩;rw [show (CN.mk 6 [] [114] [CN.mk 2 [65] [] []],(-1:Int)).1=c from hc.symm] at hO;have a7:Hid (conText c=[83,111,109,101,40,114,32,65,41]):=by unfold Hid;rw [hc];exact textLit
 have ac:Hid (c.bulk≤1048576):=by unfold Hid;rw [hc];exact bulkLit
 obtain ⟨na,nn,nc,ra,rn,rc,ka,kn,kc',rfl⟩:=hO.ow.agg;obtain ⟨zk,J⟩:∃ zk,zk=c.kind:=⟨_,rfl⟩;rw [← J] at hO ⊢;obtain ⟨W2,I⟩:∃ W,Hid (W=w1.alloc (.cells #[.int .i64 zk,.slice na nn nc,.slice ra rn rc,.slice ka kn kc'] 37)):=⟨_,rfl⟩;have E:Below w1.heap.size w1 W2:=by rw [I.out];exact (Below.refl _ _).alloc (Nat.le_refl _) _
 have Y:Hid (BoxC W2 w1.heap.size (.int .i64 zk) (.slice na nn nc) (.slice ra rn rc) (.slice ka kn kc')):=by unfold Hid;rw [I.out];exact BoxC.new w1 _ _ _ _
 have a8:Hid (RdC W0.heap.size w1.heap.size W2 6 (.agg #[.int .i64 zk,.slice na nn nc,.slice ra rn rc,.slice ka kn kc']) c):=RdC.below (OwnC.rd hO) E (Nat.le_refl _);have a0:Hid (Below w.heap.size w W2):=(ae.out.trans (F.mono (by omega))).trans (E.mono (by have:=F.size;omega));have a1:w1.heap.size<W2.heap.size:=Y.out.lt;obtain ⟨b0,b1,b2,b3⟩:=Y.out.cells;clear hc J hO F E kc;dsimp only;go_upto_region 2 with fail;rw [← I.out];go_wp2_with fail;refine (implConText_any a8.out (Nat.le_of_lt a1) ac.out).mono ?_;rintro e w3 ⟨v3,rfl,G,V⟩;rw [a7.out] at G;obtain ⟨a3,c3,ag,O,A,U⟩:=G.own (byteLit (by decide));have Z:Hid (Below w.heap.size w w3):=a0.out.trans (V.mono a0.out.size);rw [show ([83,111,109,101,40,114,32,65,41]:List Int).length=9 from rfl] at O A;subst O;have af:=Lib.run_convert_bytes_const (P:=Tryz.prog) w3 22 5 #[.int .u8 83,.int .u8 111,.int .u8 109,.int .u8 101,.int .u8 40,.int .u8 114,.int .u8 32,.int .u8 65,.int .u8 41] 9 9 Tryz.underlying22 Tryz.underlying5;obtain ⟨W4,H⟩:∃ W,Hid (W=w3.alloc (.cells #[.int .u8 83,.int .u8 111,.int .u8 109,.int .u8 101,.int .u8 40,.int .u8 114,.int .u8 32,.int .u8 65,.int .u8 41] 5 (9,10))):=⟨_,rfl⟩;have D:Below w3.heap.size w3 W4:=by rw [H.out];exact (Below.refl _ _).alloc (Nat.le_refl _) _
 have a9:Hid (Rd w3.heap.size (w3.heap.size+1) W4 (some ⟨w3.heap.size,0,none⟩) 9 9 [83,111,109,101,40,114,32,65,41]):=by
  unfold Hid;rw [H.out];exact rd_lits w3 [83,111,109,101,40,114,32,65,41] (9,10) (by simp) (byteLit (by decide))
 have aa:Hid (Rd 0 w3.heap.size W4 a3 9 c3 [83,111,109,101,40,114,32,65,41]):=by
  have h1:Rd 0 w3.heap.size w3 a3 9 c3 [83,111,109,101,40,114,32,65,41]:=A.rd (fun x hx=>⟨Nat.zero_le _,by
   obtain ⟨j,hj,rfl⟩:=mem_leafB.1 hx;rcases U with e | ⟨_,_,e,_⟩
   · simp at e
   exact e⟩)
  exact h1.below D (Nat.le_refl _)
 have ad:Hid (Below w.heap.size w W4):=Z.out.trans (D.mono Z.out.size);clear G V A U D;go_wp2_with fail;rw [← H.out];refine (same_any _ _ _ _ _ _ [83,111,109,101,40,114,32,65,41] W4 aa.out a9.out).mono ?_;rintro e w5 ⟨rfl,N⟩;rw [N];clear N;go_wp2;go_ret;exact ⟨rfl,ad.out⟩
end

section
open Go.RowKit
theorem Rd.cut {lo hi:Nat} {w:World} {b off n z:Nat} {zs:List Int} (h:Rd lo hi w (some ⟨b,off,none⟩) n z zs) {i k:Nat} (D:i+k≤n):Rd lo hi w (some ⟨b,off+i,none⟩) k (z - i) ((zs.drop i).take k):=by
 obtain ⟨hl,⟨hn,hm⟩,A,hc⟩:=h;have hg:∀ j,j<k→((zs.drop i).take k).getD j 0=zs.getD (i+j) 0:=fun j hj=>by simp [List.getD,hj]
 refine ⟨by simp;omega,by omega,fun j=>?_,?_⟩
 · by_cases hj:j<k
   · rw [hg j hj];exact A _
   rw [List.getD,List.getElem?_eq_none (by simp;omega)];simp
 by_cases hk:k=0
 · exact .inl hk
 rcases hc with h0 | ⟨b',off',e,h1,h2,hc⟩
 · omega
 simp only [Option.some.injEq,Addr.mk.injEq,and_true] at e;obtain ⟨rfl,rfl⟩:=e;refine .inr ⟨_,_,rfl,h1,h2,fun j hj=>?_⟩;rw [hg j hj,Nat.add_assoc];exact hc (i+j) (by omega)
end

end Go.Proofs.YtocpeiaolofodaaGreat
