/- A drawn world that may be bent: some world, all that it holds in memory of the call's own. -/
import Derived.Test.YtnmljalcndfjmaaGreatBentWd0
import Derived.Test.YtnmljalcndfjmaaGreatNG1
namespace Go.Proofs.YtnmljalcndfjmaaGreat
open Go.RowKit
def BwP (B:Nat) (a:Option Addr) (n G:Nat) (zs:List Int) (hi:Nat) (w:World) (e:Ending) (w':World):Prop :=
 ∃ (nx:Int) (a1:Option Addr) (n1 c1:Nat) (a2:Option Addr) (n2 c2:Nat) (a3:Option Addr) (n3 c3:Nat) (a4:Option Addr) (n4 c4:Nat) (a5:Option Addr) (n5 c5:Nat) (a6:Option Addr) (n6 c6:Nat) (x:WD),e=.returned (.agg #[.int .i64 nx,.slice a1 n1 c1,.slice a2 n2 c2,.slice a3 n3 c3,.slice a4 n4 c4,.slice a5 n5 c5,.slice a6 n6 c6])∧(-1≤nx∧nx≤129)∧x.n=nx∧RdW w.heap.size w'.heap.size w' a1 n1 c1 a2 n2 c2 a3 n3 c3 a4 n4 c4 a5 n5 c5 a6 n6 c6 x∧Cur w' B a n G zs hi∧Bt B w.heap.size w w'
theorem RdW.same {lo hi:Nat} {w w':World} {na:Option Addr} {nn nc:Nat} {sa:Option Addr} {sn sc:Nat} {ra:Option Addr} {rn rc:Nat} {la:Option Addr} {ln lc:Nat} {ia:Option Addr} {im ic:Nat} {ta:Option Addr} {tn tc:Nat} {x:WD}
    (h:RdW lo hi w na nn nc sa sn sc ra rn rc la ln lc ia im ic ta tn tc x) (hs:Same lo hi w w'):RdW lo hi w' na nn nc sa sn sc ra rn rc la ln lc ia im ic ta tn tc x :=
 ⟨h.names.same hs,h.sets.same hs,h.roles.same hs,h.rels.same hs,h.inds.same hs,h.at'.same hs⟩
theorem RdW.mono {lo hi lo' bv:Nat} {w:World} {na:Option Addr} {nn nc:Nat} {sa:Option Addr} {sn sc:Nat} {ra:Option Addr} {rn rc:Nat} {la:Option Addr} {ln lc:Nat} {ia:Option Addr} {im ic:Nat} {ta:Option Addr} {tn tc:Nat} {x:WD}
    (h:RdW lo hi w na nn nc sa sn sc ra rn rc la ln lc ia im ic ta tn tc x) (h1:lo'≤lo) (h2:hi≤bv):RdW lo' bv w na nn nc sa sn sc ra rn rc la ln lc ia im ic ta tn tc x :=
 ⟨h.names.mono h1 h2,h.sets.mono h1 h2,h.roles.mono h1 h2,h.rels.mono h1 h2,h.inds.mono h1 h2,h.at'.mono h1 h2⟩
theorem bw_fin {B:Nat} {a:Option Addr} {n G:Nat} {zs:List Int} {hi:Nat} {w V:World} {nx:Int} {a1:Option Addr} {n1 c1:Nat} {a2:Option Addr} {n2 c2:Nat} {a3:Option Addr} {n3 c3:Nat} {a4:Option Addr} {n4 c4:Nat} {a5:Option Addr} {n5 c5:Nat} {a6:Option Addr} {n6 c6:Nat} {x:WD} (hm:DwM B a n G zs hi w V) (hB:B<w.heap.size) (hn:-1≤nx∧nx≤129) (hx:x.n=nx) (hr:RdW (w.heap.size+1) V.heap.size V a1 n1 c1 a2 n2 c2 a3 n3 c3 a4 n4 c4 a5 n5 c5 a6 n6 c6 x) :
    BwP B a n G zs hi w (.returned (.agg #[.int .i64 nx,.slice a1 n1 c1,.slice a2 n2 c2,.slice a3 n3 c3,.slice a4 n4 c4,.slice a5 n5 c5,.slice a6 n6 c6])) (put7 V w.heap.size (.int .i64 nx) (.slice a1 n1 c1) (.slice a2 n2 c2) (.slice a3 n3 c3) (.slice a4 n4 c4) (.slice a5 n5 c5) (.slice a6 n6 c6))∧BoxW 27 (put7 V w.heap.size (.int .i64 nx) (.slice a1 n1 c1) (.slice a2 n2 c2) (.slice a3 n3 c3) (.slice a4 n4 c4) (.slice a5 n5 c5) (.slice a6 n6 c6)) w.heap.size nx (.slice a1 n1 c1) (.slice a2 n2 c2) (.slice a3 n3 c3) (.slice a4 n4 c4) (.slice a5 n5 c5) (.slice a6 n6 c6):=by
 obtain ⟨W',ap⟩:∃ W',W'=put7 V w.heap.size (.int .i64 nx) (.slice a1 n1 c1) (.slice a2 n2 c2) (.slice a3 n3 c3) (.slice a4 n4 c4) (.slice a5 n5 c5) (.slice a6 n6 c6):=⟨_,rfl⟩;have af:∀ k,k≠w.heap.size→W'.heap[k]?=V.heap[k]?:=fun k hk=>by rw [ap];exact put7_other _ _ _ _ _ _ _ _ hk
 have bg:BoxW 27 W' w.heap.size nx (.slice a1 n1 c1) (.slice a2 n2 c2) (.slice a3 n3 c3) (.slice a4 n4 c4) (.slice a5 n5 c5) (.slice a6 n6 c6):=by rw [ap];exact put7_box hm.box _ _ _ _ _ _ _
 have aL:W'.heap.size=V.heap.size:=by rw [ap];exact put7_size _ _ _ _ _ _ _ _ _
 have aX:W'.os=V.os∧W'.tape=V.tape∧W'.output=V.output:=by rw [ap];exact put7_keep _ _ _ _ _ _ _ _ _
 rw [← ap];clear ap;have hb:=hm.bt;have e7:Bt B w.heap.size w W':=⟨aX.1.trans hb.os,aX.2.1.trans hb.tape,aX.2.2.trans hb.output,by rw [aL];exact hb.size,fun k k1 k2=>(af k (by omega)).trans (hb.block k k1 k2)⟩;have bY:RdW w.heap.size W'.heap.size W' a1 n1 c1 a2 n2 c2 a3 n3 c3 a4 n4 c4 a5 n5 c5 a6 n6 c6 x:=by rw [aL];exact (hr.same (fun k k1 _=>af k (by omega))).mono (Nat.le_succ _) (Nat.le_refl _)
 exact ⟨⟨nx,a1,n1,c1,a2,n2,c2,a3,n3,c3,a4,n4,c4,a5,n5,c5,a6,n6,c6,x,rfl,hn,hx,bY,hm.cur.keepB (fun k hk=>af k (by omega)),e7⟩,bg⟩
set_option maxRecDepth 100000 in
set_option maxHeartbeats 8000000 in
theorem l4bent_any {w:World} {B:Nat} {a:Option Addr} {n G:Nat} {zs:List Int} {hi:Nat} (c:Cur w B a n G zs hi) :
    Calls Tryz.prog 30 #[.pointer (some ⟨B,0,none⟩)] w (BwP B a n G zs hi w):=by
 have hB:=c.lt;obtain ⟨W0,aS⟩:∃ W,Hid (W=w.alloc (.cells #[.int .i64 0,.slice none 0 0,.slice none 0 0,.slice none 0 0,.slice none 0 0,.slice none 0 0,.slice none 0 0] 27)):=⟨_,rfl⟩;have bp:W0.heap.size=w.heap.size+1:=by rw [aS.out];simp
 have bc:Hid (DwM B a n G zs hi w W0):=by
  have bC:Below w.heap.size w W0:=by rw [aS.out];exact (Below.refl _ _).alloc (Nat.le_refl _) _
  exact ⟨c.of (bC.mono hB),Bt.of_below bC,by rw [aS.out];exact BoxW.new _ w _ _ _ _ _ _ _⟩
 have cd:Hid (W0.heap.size=w.heap.size+1):=bp;clear c bp;go_enter Tryz.func30, Tryz.ntmps30;go_upto_region 1 with fail;rw [← aS.out];go_wp2_with fail;refine (l4draw_any bc.out.cur).mono ?_;rintro e w1 hD;obtain ⟨N,v1,v2,v3,v4,v5,v6,sets,rels,at',rfl,hN,aO,h1,h2,h3,h4,h5,h6,hl,bB,aN⟩:=hD;rw [cd.out] at h1 h2 h3 h4 h5 h6 aN;obtain ⟨a1,c1,rfl,r1⟩:=h1.rss;obtain ⟨a2,c2,rfl,r2⟩:=h2.rff;obtain ⟨a3,c3,rfl,r3⟩:=h3.rss;obtain ⟨a4,c4,rfl,r4⟩:=h4.rff;obtain ⟨a5,c5,rfl,r5⟩:=h5.rss;obtain ⟨a6,c6,rfl,r6⟩:=ownI_rd h6;obtain ⟨m2,ac⟩:∃ m,m=sets.length:=⟨_,rfl⟩;obtain ⟨m4,ao⟩:∃ m,m=rels.length:=⟨_,rfl⟩;obtain ⟨m6,ab⟩:∃ m,m=at'.length:=⟨_,rfl⟩;have bN:Hid (DwM B a n G zs hi w w1):=⟨bB,bc.out.bt.trans (aN.mono (Nat.le_succ _)),(aN.block _ (Nat.lt_succ_self _) (by omega)).trans bc.out.box⟩;have HN:Hid (1≤N∧N≤3):=hN
 have cg:Hid (RdW (w.heap.size+1) w1.heap.size w1 a1 3 c1 a2 m2 c2 a3 2 c3 a4 m4 c4 a5 2 c5 a6 m6 c6 ⟨(N:Int),[[65],[66],[67]],sets,[[114],[115]],rels,[[120],[121]],at'⟩):=by
  rw [ac,ao,ab];exact ⟨r1,r2,r3,r4,r5,r6⟩
 rw [show ([[65],[66],[67]]:List (List Int)).length=3 from rfl,show ([[114],[115]]:List (List Int)).length=2 from rfl,show ([[120],[121]]:List (List Int)).length=2 from rfl,← ac,← ao,← ab];have cm:Hid (m2=3∧m4=2∧m6=2∧∀ l∈sets,l.length=N):=by unfold Hid;rw [ac,ao,ab];exact hl
 have HO:Hid (OwnSS (w.heap.size+1) w1 (.slice a1 3 c1) [[65],[66],[67]]∧OwnFF (w.heap.size+1) w1 (.slice a2 m2 c2) sets∧OwnI (w.heap.size+1) w1 (.slice a6 m6 c6) at'∧OwnSS (w.heap.size+1) w1 (.slice a3 2 c3) [[114],[115]]∧OwnSS (w.heap.size+1) w1 (.slice a5 2 c5) [[120],[121]]):=by rw [ac,ab];exact ⟨h1,h2,h6,h3,h5⟩
 have cu:Hid (∃ b,Value.slice a1 3 c1=.slice (some ⟨b,0,none⟩) 3 3):=aO;clear aO ac ao ab h1 h2 h3 h4 h5 h6 r1 r2 r3 r4 r5 r6 hl hN bB aN;go_upto_region 2 with fail;refine Code.wp_name (fun W2 aP=>?_);obtain ⟨p,hp⟩:∃ p,p=w1.heap.size:=⟨_,rfl⟩;have bM:Hid (DwM B a n G zs hi w W2):=by unfold Hid;rw [aP];exact bN.out.grown hB (World.grownBy_alloc w1 _ none) (fun k e=>by cases e)
 have bJ:Hid (BoxW 27 W2 p (N:Int) (.slice a1 3 c1) (.slice a2 m2 c2) (.slice a3 2 c3) (.slice a4 m4 c4) (.slice a5 2 c5) (.slice a6 m6 c6)):=by unfold Hid;rw [aP,hp];exact BoxW.new _ w1 _ _ _ _ _ _ _
 have cp:Hid (Same 0 w1.heap.size w1 W2):=by unfold Hid;rw [aP];exact fun b _ h=>allocOld h
 have HP:Hid (p=w1.heap.size):=hp;rw [← hp];have cB:w.heap.size<p:=by rw [hp];exact bN.out.box.lt
 have bZ:p<W2.heap.size:=bJ.out.lt;clear hp aP;go_wp2_with fail;refine (l1Once_any bM.out.cur 9 (by omega)).mono ?_;rintro e w3 ⟨y,rfl,bA,aM⟩;have X:Hid (DwM B a n G zs hi w w3):=bM.out.only hB bA aM;have b9:Hid (BoxW 27 w3 p (N:Int) (.slice a1 3 c1) (.slice a2 m2 c2) (.slice a3 2 c3) (.slice a4 m4 c4) (.slice a5 2 c5) (.slice a6 m6 c6)):=(aM.other p bZ (by omega)).trans bJ.out;have bP:Hid (Same (w.heap.size+1) p w1 w3):=by unfold Hid;exact (cp.out.mono (Nat.zero_le _) (Nat.le_of_eq HP.out)).trans (fun b h1 h2=>aM.other b (by omega) (by omega))
 have bL:Hid (RdW (w.heap.size+1) p w3 a1 3 c1 a2 m2 c2 a3 2 c3 a4 m4 c4 a5 2 c5 a6 m6 c6 ⟨(N:Int),[[65],[66],[67]],sets,[[114],[115]],rels,[[120],[121]],at'⟩):=by unfold Hid;have h:=cg.out;rw [← HP.out] at h;exact h.same bP.out
 have bq:p<w3.heap.size:=b9.out.lt;clear bA aM;cases y
 · obtain ⟨z0,z1,z2,z3,z4,z5,z6⟩:=b9.out.cells;obtain ⟨I,H⟩:=bw_fin X.out hB (nx:=(N:Int)) (by have:=HN.out;omega) rfl (bL.out.mono (Nat.le_refl _) (Nat.le_of_lt bq));have R:Hid _:=I;obtain ⟨x0,x1,x2,x3,x4,x5,x6⟩:=H.cells;obtain ⟨u0,u1,u2,u3,u4,u5,u6⟩:=X.out.box.cells;have am:=X.out.box.frz 0;have al:=X.out.box.frz 1;have ak:=X.out.box.frz 2;have aj:=X.out.box.frz 3;have ai:=X.out.box.frz 4;have ah:=X.out.box.frz 5;have ag:=X.out.box.frz 6;clear I H;simp only [put7] at x0 x1 x2 x3 x4 x5 x6;go_wp2;refine bodyPost_ret (v:=.agg #[.int .i64 (N:Int),.slice a1 3 c1,.slice a2 m2 c2,.slice a3 2 c3,.slice a4 m4 c4,.slice a5 2 c5,.slice a6 m6 c6]) (by simp [results, Tryz.results30,go_sem,x0,x1,x2,x3,x4,x5,x6]) rfl ?_;exact R.out
 go_wp2_with fail;refine (l1Below_any X.out.cur 6 (by omega)).mono ?_;rintro e w4 ⟨m,rfl,⟨cE,cD⟩,bz,ax⟩;have aq:Hid (DwM B a n G zs hi w w4):=X.out.only hB bz ax;have Z:Hid (BoxW 27 w4 p (N:Int) (.slice a1 3 c1) (.slice a2 m2 c2) (.slice a3 2 c3) (.slice a4 m4 c4) (.slice a5 2 c5) (.slice a6 m6 c6)):=(ax.other p bq (by omega)).trans b9.out;have O:Hid (RdW (w.heap.size+1) p w4 a1 3 c1 a2 m2 c2 a3 2 c3 a4 m4 c4 a5 2 c5 a6 m6 c6 ⟨(N:Int),[[65],[66],[67]],sets,[[114],[115]],rels,[[120],[121]],at'⟩):=bL.out.same (fun b h1 h2=>ax.other b (by omega) (by omega));have bO:Hid (Same (w.heap.size+1) p w1 w4):=bP.out.trans (fun b h1 h2=>ax.other b (by omega) (by omega));have aW:p<w4.heap.size:=Z.out.lt;clear bz ax;obtain ⟨z0,z1,z2,z3,z4,z5,z6⟩:=Z.out.cells;by_cases e0:m=0
 · subst e0;have cH:IntKind.i64.wrap ((N:Int)+1)=(N:Int)+1:=wrap64_id (by have:=HN.out;omega);have aC:Hid (DwM B a n G zs hi w (w4.alloc (.cells #[.int .i64 0,.int .i64 (-1),.int .i64 129,.int .i64 ((N:Int)+1)] 3))):=aq.out.grown hB (World.grownBy_alloc w4 _ none) (fun k e=>by cases e);have aR:Hid (BoxW 27 (w4.alloc (.cells #[.int .i64 0,.int .i64 (-1),.int .i64 129,.int .i64 ((N:Int)+1)] 3)) p (N:Int) (.slice a1 3 c1) (.slice a2 m2 c2) (.slice a3 2 c3) (.slice a4 m4 c4) (.slice a5 2 c5) (.slice a6 m6 c6)):=(allocOld aW).trans Z.out
   have av:∀ i,i<4→∃ z,(w4.alloc (.cells #[.int .i64 0,.int .i64 (-1),.int .i64 129,.int .i64 ((N:Int)+1)] 3)).cell? ⟨w4.heap.size,i,none⟩=some (.int .i64 z)∧(-1≤z∧z≤129):=by
    have hb:=allocAt (W:=w4) (o:=.cells #[.int .i64 0,.int .i64 (-1),.int .i64 129,.int .i64 ((N:Int)+1)] 3) rfl;have:=HN.out;intro i hi
    match i,hi with
    | 0,_=>exact ⟨0,by unfold World.cell?;simp only [];rw [hb];rfl,by omega⟩
    | 1,_=>exact ⟨-1,by unfold World.cell?;simp only [];rw [hb];rfl,by omega⟩
    | 2,_=>exact ⟨129,by unfold World.cell?;simp only [];rw [hb];rfl,by omega⟩
    | 3,_=>exact ⟨(N:Int)+1,by unfold World.cell?;simp only [];rw [hb];rfl,by omega⟩
   have ba:Hid _:=av;clear av;go_wp2_with fail;refine (pickN_any aC.out.cur (g:=w4.heap.size) (m:=4) (by omega) (by omega) (fun z=>-1≤z∧z≤129) ba.out).mono ?_;rintro e w6 ⟨nx,rfl,ay,aA,T⟩;have cl:Hid (DwM B a n G zs hi w w6):=aC.out.only hB aA T;have Y:Hid (BoxW 27 w6 p (N:Int) (.slice a1 3 c1) (.slice a2 m2 c2) (.slice a3 2 c3) (.slice a4 m4 c4) (.slice a5 2 c5) (.slice a6 m6 c6)):=(T.other p (by simp;omega) (by omega)).trans aR.out;have cf:Hid (RdW (w.heap.size+1) p w6 a1 3 c1 a2 m2 c2 a3 2 c3 a4 m4 c4 a5 2 c5 a6 m6 c6 ⟨(N:Int),[[65],[66],[67]],sets,[[114],[115]],rels,[[120],[121]],at'⟩):=O.out.same (fun b h1 h2=>(T.other b (by simp;omega) (by omega)).trans (allocOld (by omega)));have ae:Hid (-1≤nx∧nx≤129):=ay;clear aA T ay z0 z1 z2 z3 z4 z5 z6;obtain ⟨z0,z1,z2,z3,z4,z5,z6⟩:=Y.out.cells;have bT:=Y.out.frz 0;go_upto_region 15 with fail;refine Code.wp_name (fun w7 E=>?_);have D:Hid (DwM B a n G zs hi w w7):=by unfold Hid;rw [E];exact cl.out.grown hB (setGrown _ _ _ _) (fun k e=>by simp only [Option.some.injEq] at e;omega)
   have J:Hid (BoxW 27 w7 p nx (.slice a1 3 c1) (.slice a2 m2 c2) (.slice a3 2 c3) (.slice a4 m4 c4) (.slice a5 2 c5) (.slice a6 m6 c6)):=by unfold Hid;rw [E];exact Y.out.at 0 _
   have U:Hid (RdW (w.heap.size+1) p w7 a1 3 c1 a2 m2 c2 a3 2 c3 a4 m4 c4 a5 2 c5 a6 m6 c6 ⟨nx,[[65],[66],[67]],sets,[[114],[115]],rels,[[120],[121]],at'⟩):=by
    have h:=cf.out.same (w':=w7) (fun b _ h2=>by rw [E];exact Below.heap_setCell _ _ _ _ (by show b≠p;omega));exact ⟨h.names,h.sets,h.roles,h.rels,h.inds,h.at'⟩
   have a7:p<w7.heap.size:=J.out.lt;clear E z0 z1 z2 z3 z4 z5 z6 bT;obtain ⟨z0,z1,z2,z3,z4,z5,z6⟩:=J.out.cells;obtain ⟨I,H⟩:=bw_fin D.out hB (nx:=nx) (ae.out) rfl (U.out.mono (Nat.le_refl _) (Nat.le_of_lt a7));have R:Hid _:=I;obtain ⟨x0,x1,x2,x3,x4,x5,x6⟩:=H.cells;obtain ⟨u0,u1,u2,u3,u4,u5,u6⟩:=D.out.box.cells;have am:=D.out.box.frz 0;have al:=D.out.box.frz 1;have ak:=D.out.box.frz 2;have aj:=D.out.box.frz 3;have ai:=D.out.box.frz 4;have ah:=D.out.box.frz 5;have ag:=D.out.box.frz 6;clear I H;simp only [put7] at x0 x1 x2 x3 x4 x5 x6;go_wp2;refine bodyPost_ret (v:=.agg #[.int .i64 nx,.slice a1 3 c1,.slice a2 m2 c2,.slice a3 2 c3,.slice a4 m4 c4,.slice a5 2 c5,.slice a6 m6 c6]) (by simp [results, Tryz.results30,go_sem,x0,x1,x2,x3,x4,x5,x6]) rfl ?_;exact R.out
 by_cases e1:m=1
 · subst e1;obtain ⟨b1,aO⟩:=cu.out;injection aO with q1 _ q2
   subst q1 q2;have ci:Hid (OwnSS (w.heap.size+1) w4 (.slice (some ⟨b1,0,none⟩) 3 3) [[65],[66],[67]]):=HO.out.1.same (bO.out.mono (Nat.le_refl _) (Nat.le_of_eq HP.out.symm));obtain ⟨vs,a8,aE⟩:=ci.out;have bU:=kcAt w4 w4.heap.size 65 rfl;obtain ⟨W5,a0⟩:∃ W,Hid (W=(w4.alloc (.cells #[.int .u8 65] 5 (1,2))).alloc (.cells #[.slice (some ⟨w4.heap.size,0,none⟩) 1 1] 22)):=⟨_,rfl⟩;obtain ⟨g,hg⟩:∃ g,Hid (g=W5.heap.size):=⟨_,rfl⟩;have aV:W5.heap.size=w4.heap.size+2:=by rw [a0.out];simp
   have aQ:w4.grownBy W5 none:=by rw [a0.out];exact (World.grownBy_alloc w4 _ none).trans (World.grownBy_alloc _ _ none)
   have b4:Same (w.heap.size+1) w4.heap.size w4 W5:=fun b _ h2=>aQ.block b h2 (fun e=>by cases e)
   have bK:Hid (W5.ownsRow (w.heap.size+1) 22 1 (.slice (some ⟨b1,0,none⟩) 3 3) 3 vs):=ownsR_same a8 b4;have bj:Hid (∀ i,i<3→WordAt (w.heap.size+1) W5 (vs.getD i undef) (([[65],[66],[67]]:List (List Int)).getD i [])):=fun i hi=>(aE i hi).same b4
   have ck:Hid (WordAt (w.heap.size+1) W5 (.slice (some ⟨w4.heap.size,0,none⟩) 1 1) [65]):=by
    unfold Hid;rw [a0.out];exact word_lit (f:=(1,2)) ((allocOld (by simp)).trans (allocAt rfl)) (by omega) (by omega)
   have aD:Hid (w4.grownBy W5 none∧W5.heap.size=w4.heap.size+2):=⟨aQ,aV⟩
   have aa:∀ j u,[Value.slice (some ⟨w4.heap.size,0,none⟩) 1 1][j]?=some u→W5.cell? ((⟨w4.heap.size+1,0,none⟩:Addr).add j)=some u:=by
    rw [a0.out];have h:=newsOne (w4.alloc (.cells #[.int .u8 65] 5 (1,2))) (Value.slice (some ⟨w4.heap.size,0,none⟩) 1 1) 22;simpa using h
   have cj:Hid (∀ j u,[Value.slice (some ⟨w4.heap.size,0,none⟩) 1 1][j]?=some u→W5.cell? ((⟨w4.heap.size+1,0,none⟩:Addr).add j)=some u):=aa;have aR:Hid (BoxW 27 W5 p (N:Int) (.slice (some ⟨b1,0,none⟩) 3 3) (.slice a2 m2 c2) (.slice a3 2 c3) (.slice a4 m4 c4) (.slice a5 2 c5) (.slice a6 m6 c6)):=(aQ.block p aW (fun e=>by cases e)).trans Z.out;have aK:w.heap.size+1≤W5.heap.size:=by omega
   clear aa b4 aQ aV a8 aE;obtain ⟨i0,c7,bX,bW,bV⟩:=info_parts Tryz.infoDSS;go_upto_region 15 with (at_builtin;rw [← a0.out];refine wpList_append_full rfl (.tmp 26) (.tmp 29) 23 rfl (w.heap.size+1) 22 i0 (.slice none 0 0) 1 24 Tryz.underlying23 c7 bX bW bV rfl (by decide) g hg.out b1 3 4 vs rfl bK.out ⟨w4.heap.size+1,0,none⟩ 1 1 [Value.slice (some ⟨w4.heap.size,0,none⟩) 1 1] rfl rfl cj.out (by simp [Value.oneCell']) (by omega) rfl (by unfold maxLen;omega) (by omega) aK ?_;intro cq w6 a9 aZ;have Y:Hid (BoxW 27 w6 p (N:Int) (.slice (some ⟨b1,0,none⟩) 3 3) (.slice a2 m2 c2) (.slice a3 2 c3) (.slice a4 m4 c4) (.slice a5 2 c5) (.slice a6 m6 c6)):=(aZ.block p aR.out.lt (fun e=>by cases e)).trans aR.out;have bb:Hid (w6.ownsRow (w.heap.size+1) 22 1 (.slice (some ⟨g,0,none⟩) 4 cq) 4 (vs++[Value.slice (some ⟨w4.heap.size,0,none⟩) 1 1])∧W5.grownBy w6 none):=⟨a9,aZ⟩;clear z0 z1 z2 z3 z4 z5 z6 a9 aZ bU;obtain ⟨z0,z1,z2,z3,z4,z5,z6⟩:=Y.out.cells;have bS:=Y.out.frz 1);refine Code.wp_name (fun w7 E=>?_);have b7:w4.grownBy w6 none:=aD.out.1.trans bb.out.2;have D:Hid (DwM B a n G zs hi w w7):=by unfold Hid;rw [E];exact (aq.out.grown hB b7 (fun k e=>by cases e)).grown hB (setGrown w6 p 1 _) (fun k e=>by simp only [Option.some.injEq] at e;omega)
   have J:Hid (BoxW 27 w7 p (N:Int) (.slice (some ⟨g,0,none⟩) 4 cq) (.slice a2 m2 c2) (.slice a3 2 c3) (.slice a4 m4 c4) (.slice a5 2 c5) (.slice a6 m6 c6)):=by unfold Hid;rw [E];exact Y.out.at 1 _
   have bF:OwnSS (w.heap.size+1) w6 (.slice (some ⟨g,0,none⟩) 4 cq) ([[65],[66],[67]]++[[65]]):=OwnSS.push (L:=[[65],[66],[67]]) (v:=.slice (some ⟨b1,0,none⟩) 3 3) bK.out bj.out ck.out bb.out.1 (grown_none bb.out.2 _);have aI:OwnSS (w.heap.size+1) w7 (.slice (some ⟨g,0,none⟩) 4 cq) ([[65],[66],[67]]++[[65]]):=by rw [E];exact bF.set Y.out (by decide) (by decide) 1 _
   obtain ⟨an,cn,en,rn⟩:=aI.rss;injection en with b8 _ en2
   subst b8 en2;have a7:p<w7.heap.size:=J.out.lt
   have bD:Same (w.heap.size+1) p w4 w7:=fun b _ h2=>by
    rw [E,Below.heap_setCell _ _ _ _ (by show b≠p;omega)];exact b7.block b (by omega) (fun e=>by cases e)
   have F:=(O.out.same bD).mono (Nat.le_refl _) (Nat.le_of_lt a7);have U:Hid (RdW (w.heap.size+1) w7.heap.size w7 (some ⟨g,0,none⟩) 4 cq a2 m2 c2 a3 2 c3 a4 m4 c4 a5 2 c5 a6 m6 c6 ⟨(N:Int),[[65],[66],[67]]++[[65]],sets,[[114],[115]],rels,[[120],[121]],at'⟩):=⟨rn,F.sets,F.roles,F.rels,F.inds,F.at'⟩;clear E z0 z1 z2 z3 z4 z5 z6 bS F bD bF aI rn b7;obtain ⟨z0,z1,z2,z3,z4,z5,z6⟩:=J.out.cells;obtain ⟨I,H⟩:=bw_fin D.out hB (nx:=(N:Int)) (by have:=HN.out;first | exact ae.out | omega) rfl U.out;have R:Hid _:=I;obtain ⟨x0,x1,x2,x3,x4,x5,x6⟩:=H.cells;obtain ⟨u0,u1,u2,u3,u4,u5,u6⟩:=D.out.box.cells;have am:=D.out.box.frz 0;have al:=D.out.box.frz 1;have ak:=D.out.box.frz 2;have aj:=D.out.box.frz 3;have ai:=D.out.box.frz 4;have ah:=D.out.box.frz 5;have ag:=D.out.box.frz 6;clear I H;simp only [put7] at x0 x1 x2 x3 x4 x5 x6;go_wp2;refine bodyPost_ret (v:=.agg #[.int .i64 (N:Int),.slice (some ⟨g,0,none⟩) 4 cq,.slice a2 m2 c2,.slice a3 2 c3,.slice a4 m4 c4,.slice a5 2 c5,.slice a6 m6 c6]) (by simp [results, Tryz.results30,go_sem,x0,x1,x2,x3,x4,x5,x6]) rfl ?_;exact R.out
 obtain ⟨ac,ao,ab,hl⟩:=cm.out;subst ac ao ab;have co:Hid (∀ l∈sets,l.length=N):=hl;clear hl;have cC:Hid (p≤w1.heap.size):=Nat.le_of_eq HP.out;have aB:Hid (Same (w.heap.size+1) w1.heap.size w1 w4):=bO.out.mono (Nat.le_refl _) (Nat.le_of_eq HP.out.symm);by_cases e2:m=2
 · subst e2
   obtain ⟨b2,o2,hq,cz,cA,aJ⟩:∃ b2 o2,a2=some ⟨b2,o2,none⟩∧w.heap.size+1≤b2∧b2<p∧∃ v,w4.cell? ⟨b2,o2,none⟩=some v∧SlF (w.heap.size+1) p w4 v (sets.getD 0 []):=by
    rcases O.out.sets.cells with h | ⟨b2,o2,h,h1,h2,h3⟩
    · omega
    exact ⟨b2,o2,h,h1,h2,h3 0 (by omega)⟩
   subst hq;obtain ⟨v0,ar,fa,ns,cs,rfl,au⟩:=aJ
   have c0:1≤ns:=by
    have h1:=au.len
    have cv:(sets.getD 0 []).length=N:=by
     have cF:sets.length=3:=O.out.sets.len;exact co.out _ (by simp only [List.getD];rw [List.getElem?_eq_getElem (by omega)];exact List.getElem_mem _)
    have:=HN.out;omega
   obtain ⟨bs,os,hq⟩:∃ bs os,fa=some ⟨bs,os,none⟩:=by
    rcases au.cells with h | ⟨bs,os,h,_⟩
    · omega
    exact ⟨bs,os,h⟩
   subst hq;have cG:=au.fits
   obtain ⟨os',az,aF⟩:∃ os',(if cs=1 then some (⟨bs,os,none⟩:Addr) else some ⟨bs,os+1,none⟩)=some ⟨bs,os',none⟩∧(1<ns→os'=os+1):=by
    by_cases h:cs=1
    · exact ⟨os,if_pos h,fun h'=>by omega⟩
    exact ⟨os+1,if_neg h,fun _=>rfl⟩
   obtain ⟨bi,aY⟩:∃ cur,w4.heap[b2]?=some (.cells cur 63 (0,0)):=by
    have h:=ownsR_same HO.out.2.1.choose_spec.1 aB.out;rcases h.2 with ⟨q,_⟩ | ⟨g,cc,cur,q,_,q2,_⟩
    · simp at q
    simp only [Value.slice.injEq,Option.some.injEq,Addr.mk.injEq,and_true] at q;obtain ⟨⟨rfl,_⟩,_⟩:=q;exact ⟨cur,q2⟩
   have c8:w4.frozen? ⟨b2,o2,none⟩=false:=by simp [World.frozen?,aY]
   have bd:Hid (w4.heap[b2]?=some (.cells bi 63 (0,0))):=aY;have ce:Hid (RB (w.heap.size+1) p w4 (some ⟨bs,os,none⟩) ns cs (sets.getD 0 [])):=au;have ch:Hid (1<ns→os'=os+1):=aF;clear aY au aF;go_upto_region 10 with fail;go_region
   all_goals
    go_upto_region 15 with fail;refine Code.wp_name (fun w7 E=>?_);have aU:SlF (w.heap.size+1) p (w4.setCell ⟨b2,o2,none⟩ (.slice (some ⟨bs,os',none⟩) (ns - 1) (cs - 1))) (.slice (some ⟨bs,os',none⟩) (ns - 1) (cs - 1)) ((sets.getD 0 []).drop 1):=⟨_,_,_,rfl,RB.put (RdN.tl ce.out c0 (some ⟨bs,os',none⟩) (fun h=>by rw [ch.out h])) ar (fun b e=>by cases e)⟩;obtain ⟨L2,bH⟩:=RFF.put O.out.sets ar (fun b e=>by cases e) aU;obtain ⟨L4,bG⟩:=RFF.put O.out.rels ar (fun b e=>by cases e) aU;have aH:=RI.putS (u:=.slice (some ⟨bs,os',none⟩) (ns - 1) (cs - 1)) O.out.at' ar;obtain ⟨cN,cK,b8,bo⟩:=((HO.out.1.same aB.out).set bd.out (by decide) (by decide) o2 (.slice (some ⟨bs,os',none⟩) (ns - 1) (cs - 1))).rss;obtain ⟨cM,cJ,cb,bn⟩:=((HO.out.2.2.2.1.same aB.out).set bd.out (by decide) (by decide) o2 (.slice (some ⟨bs,os',none⟩) (ns - 1) (cs - 1))).rss;obtain ⟨cL,cI,ca,bm⟩:=((HO.out.2.2.2.2.same aB.out).set bd.out (by decide) (by decide) o2 (.slice (some ⟨bs,os',none⟩) (ns - 1) (cs - 1))).rss;injection b8 with q1 _ q2
    subst q1 q2;injection cb with q1 _ q2
    subst q1 q2;injection ca with q1 _ q2
    subst q1 q2;have aL:(w4.setCell ⟨b2,o2,none⟩ (.slice (some ⟨bs,os',none⟩) (ns - 1) (cs - 1))).heap.size=w4.heap.size:=by simp
    have bE:RdW (w.heap.size+1) (w4.setCell ⟨b2,o2,none⟩ (.slice (some ⟨bs,os',none⟩) (ns - 1) (cs - 1))).heap.size (w4.setCell ⟨b2,o2,none⟩ (.slice (some ⟨bs,os',none⟩) (ns - 1) (cs - 1))) a1 3 c1 (some ⟨b2,o2,none⟩) 3 c2 a3 2 c3 a4 2 c4 a5 2 c5 a6 2 c6 ⟨(N:Int),[[65],[66],[67]],L2,[[114],[115]],L4,[[120],[121]],at'⟩ :=
     ⟨bo,bH.mono (Nat.le_refl _) (by omega),bn,bG.mono (Nat.le_refl _) (by omega),bm,aH.mono (Nat.le_refl _) (by omega)⟩
    have U:Hid (RdW (w.heap.size+1) w7.heap.size w7 a1 3 c1 (some ⟨b2,o2,none⟩) 3 c2 a3 2 c3 a4 2 c4 a5 2 c5 a6 2 c6 ⟨(N:Int),[[65],[66],[67]],L2,[[114],[115]],L4,[[120],[121]],at'⟩):=by
     unfold Hid;rw [E];exact bE.same (fun _ _ _=>rfl)
    have D:Hid (DwM B a n G zs hi w w7):=by
     unfold Hid;rw [E];have hg:=setGrown w4 b2 o2 (.slice (some ⟨bs,os',none⟩) (ns - 1) (cs - 1));exact aq.out.grown (row:=some b2) hB ⟨hg.os,hg.tape,hg.output,hg.size,hg.block⟩ (fun k e=>by simp only [Option.some.injEq] at e;omega)
    have J:Hid (BoxW 27 w7 p (N:Int) (.slice a1 3 c1) (.slice (some ⟨b2,o2,none⟩) 3 c2) (.slice a3 2 c3) (.slice a4 2 c4) (.slice a5 2 c5) (.slice a6 2 c6)):=by
     unfold Hid;rw [E];exact (heap_setCell_other w4 ⟨b2,o2,none⟩ p _ (by show p≠b2;omega)).trans Z.out
    clear E z0 z1 z2 z3 z4 z5 z6 bE aL aU bH bG aH bo bn bm ar c8 az;obtain ⟨z0,z1,z2,z3,z4,z5,z6⟩:=J.out.cells;obtain ⟨I,H⟩:=bw_fin D.out hB (nx:=(N:Int)) (by have:=HN.out;first | exact ae.out | omega) rfl U.out;have R:Hid _:=I;obtain ⟨x0,x1,x2,x3,x4,x5,x6⟩:=H.cells;obtain ⟨u0,u1,u2,u3,u4,u5,u6⟩:=D.out.box.cells;have am:=D.out.box.frz 0;have al:=D.out.box.frz 1;have ak:=D.out.box.frz 2;have aj:=D.out.box.frz 3;have ai:=D.out.box.frz 4;have ah:=D.out.box.frz 5;have ag:=D.out.box.frz 6;clear I H;simp only [put7] at x0 x1 x2 x3 x4 x5 x6;go_wp2;refine bodyPost_ret (v:=.agg #[.int .i64 (N:Int),.slice a1 3 c1,.slice (some ⟨b2,o2,none⟩) 3 c2,.slice a3 2 c3,.slice a4 2 c4,.slice a5 2 c5,.slice a6 2 c6]) (by simp [results, Tryz.results30,go_sem,x0,x1,x2,x3,x4,x5,x6]) rfl ?_;exact R.out
 by_cases e3:m=3
 · subst e3
   obtain ⟨b6,o6,hq,cx,cy,k0,bu⟩:∃ b6 o6,a6=some ⟨b6,o6,none⟩∧w.heap.size+1≤b6∧b6<p∧∃ k0,w4.cell? ⟨b6,o6,none⟩=some (.int .i64 k0):=by
    rcases O.out.at'.cells with h | ⟨b6,o6,h,h1,h2,h3⟩
    · omega
    obtain ⟨v,hv,hr⟩:=h3 0 (by omega);exact ⟨b6,o6,h,h1,h2,_,by rw [← hr];exact hv⟩
   subst hq
   obtain ⟨bh,bx⟩:∃ cur,w4.heap[b6]?=some (.cells cur 3 (0,0)):=by
    have h:=ownI_same HO.out.2.2.1 aB.out;rcases h.2 with ⟨q,_⟩ | ⟨g,cc,cur,q,_,q2,_⟩
    · simp at q
    simp only [Value.slice.injEq,Option.some.injEq,Addr.mk.injEq,and_true] at q;obtain ⟨⟨rfl,_⟩,_⟩:=q;exact ⟨cur,q2⟩
   have ct:Hid (w4.heap[b6]?=some (.cells bh 3 (0,0))):=bx;have cr:Hid (w4.cell? ⟨b6,o6,none⟩=some (.int .i64 k0)):=bu;clear bx;obtain ⟨W5,a0⟩:∃ W,Hid (W=(w4.alloc (.cells #[.int .i64 (-1),.int .i64 (N:Int)] 3)).drew):=⟨_,rfl⟩
   have b3:w4.grownBy W5 none:=by
    rw [a0.out];have h:=World.grownBy_alloc w4 (.cells #[.int .i64 (-1),.int .i64 (N:Int)] 3) none;exact ⟨h.os,h.tape,h.output,h.size,h.block⟩
   have aD:Hid (w4.grownBy W5 none):=b3;have aC:Hid (DwM B a n G zs hi w W5):=aq.out.grown hB b3 (fun k e=>by cases e)
   have av:∀ i,i<2→∃ z,W5.cell? ⟨w4.heap.size,i,none⟩=some (.int .i64 z)∧(-1≤z∧z≤129):=by
    have hb:W5.heap[w4.heap.size]?=some (.cells #[.int .i64 (-1),.int .i64 (N:Int)] 3):=by rw [a0.out];exact allocAt (W:=w4) rfl
    have:=HN.out;intro i hi
    match i,hi with
    | 0,_=>exact ⟨-1,by unfold World.cell?;simp only [];rw [hb];rfl,by omega⟩
    | 1,_=>exact ⟨(N:Int),by unfold World.cell?;simp only [];rw [hb];rfl,by omega⟩
   have ba:Hid _:=av;have aV:w4.heap.size<W5.heap.size:=by rw [a0.out];show w4.heap.size<(w4.alloc _).heap.size;simp
   clear av b3
   have bk:Hid (∀ w6:World,Only B W5 w6→BoxW 27 w6 p (N:Int) (.slice a1 3 c1) (.slice a2 3 c2) (.slice a3 2 c3) (.slice a4 2 c4) (.slice a5 2 c5) (.slice (some ⟨b6,o6,none⟩) 2 c6)∧w6.cell? ⟨b6,o6,none⟩=some (.int .i64 k0)∧w6.frozen? ⟨b6,o6,none⟩=false):=by
    intro w6 T;have aG:w6.heap[b6]?=w4.heap[b6]?:=(T.other b6 (by omega) (by omega)).trans (aD.out.block b6 (by omega) (fun e=>by cases e));refine ⟨(T.other p (by omega) (by omega)).trans ((aD.out.block p aW (fun e=>by cases e)).trans Z.out),?_,?_⟩
    · exact (World.cell?_of_block (w:=w4) aG).trans cr.out
    have h6:=ct.out;rw [← aG] at h6;simp [World.frozen?,h6]
   go_upto_region 12 with fail;go_region_with (go_at_call 75;(rw [← a0.out];refine (pickN_any (w:=W5) aC.out.cur (g:=w4.heap.size) (m:=2) (by omega) (by omega) (fun z=>-1≤z∧z≤129) ba.out).mono ?_;rintro e w6 ⟨nx,rfl,ay,aA,T⟩;have bf:Hid (Cur w6 B a n G zs hi∧Only B W5 w6):=⟨aA,T⟩;obtain ⟨aT,k6,f6⟩:=bk.out w6 T;have Y:Hid (BoxW 27 w6 p (N:Int) (.slice a1 3 c1) (.slice a2 3 c2) (.slice a3 2 c3) (.slice a4 2 c4) (.slice a5 2 c5) (.slice (some ⟨b6,o6,none⟩) 2 c6)):=aT;obtain ⟨t0,t1,t2,t3,t4,t5,t6⟩:=aT.cells;have ae:Hid (-1≤nx∧nx≤129):=ay;clear ay aA T aT))
   all_goals
    go_upto_region 15 with fail;refine Code.wp_name (fun w7 E=>?_)
    have J:Hid (BoxW 27 w7 p (N:Int) (.slice a1 3 c1) (.slice a2 3 c2) (.slice a3 2 c3) (.slice a4 2 c4) (.slice a5 2 c5) (.slice (some ⟨b6,o6,none⟩) 2 c6)):=by
     unfold Hid;rw [E];exact (heap_setCell_other w6 ⟨b6,o6,none⟩ p _ (by show p≠b6;omega)).trans Y.out
    have D:Hid (DwM B a n G zs hi w w7):=by unfold Hid;rw [E];exact (aC.out.only hB bf.out.1 bf.out.2).grown hB (setGrown w6 b6 o6 (.int .i64 nx)) (fun k e=>by simp only [Option.some.injEq] at e;omega)
    have a7:p<w7.heap.size:=J.out.lt;have ad:RdW (w.heap.size+1) p w6 a1 3 c1 a2 3 c2 a3 2 c3 a4 2 c4 a5 2 c5 (some ⟨b6,o6,none⟩) 2 c6 ⟨(N:Int),[[65],[66],[67]],sets,[[114],[115]],rels,[[120],[121]],at'⟩:=O.out.same (fun b h1 h2=>(bf.out.2.other b (by omega) (by omega)).trans (aD.out.block b (by omega) (fun e=>by cases e)))
    have F:RdW (w.heap.size+1) p w7 a1 3 c1 a2 3 c2 a3 2 c3 a4 2 c4 a5 2 c5 (some ⟨b6,o6,none⟩) 2 c6 ⟨(N:Int),[[65],[66],[67]],sets,[[114],[115]],rels,[[120],[121]],at'.set 0 nx⟩:=by
     rw [E];exact ⟨ad.names.putI k6,ad.sets.putI k6,ad.roles.putI k6,ad.rels.putI k6,ad.inds.putI k6,RI.putI ad.at' k6 nx (by omega)⟩
    have U:Hid (RdW (w.heap.size+1) w7.heap.size w7 a1 3 c1 a2 3 c2 a3 2 c3 a4 2 c4 a5 2 c5 (some ⟨b6,o6,none⟩) 2 c6 ⟨(N:Int),[[65],[66],[67]],sets,[[114],[115]],rels,[[120],[121]],at'.set 0 nx⟩):=F.mono (Nat.le_refl _) (Nat.le_of_lt a7);clear E z0 z1 z2 z3 z4 z5 z6 t0 t1 t2 t3 t4 t5 t6 k6 f6 ad F bu;obtain ⟨z0,z1,z2,z3,z4,z5,z6⟩:=J.out.cells;obtain ⟨I,H⟩:=bw_fin D.out hB (nx:=(N:Int)) (by have:=HN.out;first | exact ae.out | omega) rfl U.out;have R:Hid _:=I;obtain ⟨x0,x1,x2,x3,x4,x5,x6⟩:=H.cells;obtain ⟨u0,u1,u2,u3,u4,u5,u6⟩:=D.out.box.cells;have am:=D.out.box.frz 0;have al:=D.out.box.frz 1;have ak:=D.out.box.frz 2;have aj:=D.out.box.frz 3;have ai:=D.out.box.frz 4;have ah:=D.out.box.frz 5;have ag:=D.out.box.frz 6;clear I H;simp only [put7] at x0 x1 x2 x3 x4 x5 x6;go_wp2;refine bodyPost_ret (v:=.agg #[.int .i64 (N:Int),.slice a1 3 c1,.slice a2 3 c2,.slice a3 2 c3,.slice a4 2 c4,.slice a5 2 c5,.slice (some ⟨b6,o6,none⟩) 2 c6]) (by simp [results, Tryz.results30,go_sem,x0,x1,x2,x3,x4,x5,x6]) rfl ?_;exact R.out
 by_cases e4:m=4
 · subst e4
   obtain ⟨b5,o5,hq⟩:∃ b5 o5,a5=some ⟨b5,o5,none⟩:=by
    rcases O.out.inds.cells with h | ⟨b5,o5,h,_⟩
    · omega
    exact ⟨b5,o5,h⟩
   subst hq;have c9:2≤c5:=O.out.inds.fits.1;have az:(if c5=1 then some (⟨b5,o5,none⟩:Addr) else some ⟨b5,o5+1,none⟩)=some ⟨b5,o5+1,none⟩:=if_neg (by omega);have bQ:=Z.out.frz 5;go_upto_region 15 with fail;refine Code.wp_name (fun w7 E=>?_);have D:Hid (DwM B a n G zs hi w w7):=by unfold Hid;rw [E];exact aq.out.grown hB (setGrown w4 p 5 (.slice (some ⟨b5,o5+1,none⟩) 1 (c5 - 1))) (fun k e=>by simp only [Option.some.injEq] at e;omega)
   have J:Hid (BoxW 27 w7 p (N:Int) (.slice a1 3 c1) (.slice a2 3 c2) (.slice a3 2 c3) (.slice a4 2 c4) (.slice (some ⟨b5,o5+1,none⟩) 1 (c5 - 1)) (.slice a6 2 c6)):=by unfold Hid;rw [E];exact Z.out.at 5 _
   have a7:p<w7.heap.size:=J.out.lt;have F:=(O.out.same (w':=w7) (fun b _ h2=>by rw [E];exact Below.heap_setCell _ _ _ _ (by show b≠p;omega))).mono (Nat.le_refl _) (Nat.le_of_lt a7)
   have U:Hid (RdW (w.heap.size+1) w7.heap.size w7 a1 3 c1 a2 3 c2 a3 2 c3 a4 2 c4 (some ⟨b5,o5+1,none⟩) 1 (c5 - 1) a6 2 c6 ⟨(N:Int),[[65],[66],[67]],sets,[[114],[115]],rels,[[121]],at'⟩) :=
    ⟨F.names,F.sets,F.roles,F.rels,RdN.tl F.inds (by omega) (some ⟨b5,o5+1,none⟩) (fun _=>rfl),F.at'⟩
   clear E z0 z1 z2 z3 z4 z5 z6 bQ F az;obtain ⟨z0,z1,z2,z3,z4,z5,z6⟩:=J.out.cells;obtain ⟨I,H⟩:=bw_fin D.out hB (nx:=(N:Int)) (by have:=HN.out;first | exact ae.out | omega) rfl U.out;have R:Hid _:=I;obtain ⟨x0,x1,x2,x3,x4,x5,x6⟩:=H.cells;obtain ⟨u0,u1,u2,u3,u4,u5,u6⟩:=D.out.box.cells;have am:=D.out.box.frz 0;have al:=D.out.box.frz 1;have ak:=D.out.box.frz 2;have aj:=D.out.box.frz 3;have ai:=D.out.box.frz 4;have ah:=D.out.box.frz 5;have ag:=D.out.box.frz 6;clear I H;simp only [put7] at x0 x1 x2 x3 x4 x5 x6;go_wp2;refine bodyPost_ret (v:=.agg #[.int .i64 (N:Int),.slice a1 3 c1,.slice a2 3 c2,.slice a3 2 c3,.slice a4 2 c4,.slice (some ⟨b5,o5+1,none⟩) 1 (c5 - 1),.slice a6 2 c6]) (by simp [results, Tryz.results30,go_sem,x0,x1,x2,x3,x4,x5,x6]) rfl ?_;exact R.out
 obtain rfl:m=5:=by omega
 obtain ⟨b5,o5,hq⟩:∃ b5 o5,a4=some ⟨b5,o5,none⟩:=by
  rcases O.out.rels.cells with h | ⟨b5,o5,h,_⟩
  · omega
  exact ⟨b5,o5,h⟩
 subst hq;have c9:2≤c4:=O.out.rels.fits.1;have az:(if c4=1 then some (⟨b5,o5,none⟩:Addr) else some ⟨b5,o5+1,none⟩)=some ⟨b5,o5+1,none⟩:=if_neg (by omega);have bR:=Z.out.frz 4;go_upto_region 15 with fail;refine Code.wp_name (fun w7 E=>?_);have D:Hid (DwM B a n G zs hi w w7):=by unfold Hid;rw [E];exact aq.out.grown hB (setGrown w4 p 4 (.slice (some ⟨b5,o5+1,none⟩) 1 (c4 - 1))) (fun k e=>by simp only [Option.some.injEq] at e;omega)
 have J:Hid (BoxW 27 w7 p (N:Int) (.slice a1 3 c1) (.slice a2 3 c2) (.slice a3 2 c3) (.slice (some ⟨b5,o5+1,none⟩) 1 (c4 - 1)) (.slice a5 2 c5) (.slice a6 2 c6)):=by unfold Hid;rw [E];exact Z.out.at 4 _
 have a7:p<w7.heap.size:=J.out.lt;have F:=(O.out.same (w':=w7) (fun b _ h2=>by rw [E];exact Below.heap_setCell _ _ _ _ (by show b≠p;omega))).mono (Nat.le_refl _) (Nat.le_of_lt a7)
 have U:Hid (RdW (w.heap.size+1) w7.heap.size w7 a1 3 c1 a2 3 c2 a3 2 c3 (some ⟨b5,o5+1,none⟩) 1 (c4 - 1) a5 2 c5 a6 2 c6 ⟨(N:Int),[[65],[66],[67]],sets,[[114],[115]],rels.drop 1,[[120],[121]],at'⟩) :=
  ⟨F.names,F.sets,F.roles,RdN.tl F.rels (by omega) (some ⟨b5,o5+1,none⟩) (fun _=>rfl),F.inds,F.at'⟩
 clear E z0 z1 z2 z3 z4 z5 z6 bR F az;obtain ⟨z0,z1,z2,z3,z4,z5,z6⟩:=J.out.cells;obtain ⟨I,H⟩:=bw_fin D.out hB (nx:=(N:Int)) (by have:=HN.out;first | exact ae.out | omega) rfl U.out;have R:Hid _:=I;obtain ⟨x0,x1,x2,x3,x4,x5,x6⟩:=H.cells;obtain ⟨u0,u1,u2,u3,u4,u5,u6⟩:=D.out.box.cells;have am:=D.out.box.frz 0;have al:=D.out.box.frz 1;have ak:=D.out.box.frz 2;have aj:=D.out.box.frz 3;have ai:=D.out.box.frz 4;have ah:=D.out.box.frz 5;have ag:=D.out.box.frz 6;clear I H;simp only [put7] at x0 x1 x2 x3 x4 x5 x6;go_wp2;refine bodyPost_ret (v:=.agg #[.int .i64 (N:Int),.slice a1 3 c1,.slice a2 3 c2,.slice a3 2 c3,.slice (some ⟨b5,o5+1,none⟩) 1 (c4 - 1),.slice a5 2 c5,.slice a6 2 c6]) (by simp [results, Tryz.results30,go_sem,x0,x1,x2,x3,x4,x5,x6]) rfl ?_;exact R.out
end Go.Proofs.YtnmljalcndfjmaaGreat
