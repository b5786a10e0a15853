/- Several texts in one: WdRel1, HoldF, ReadS8, InSetA. -/
import Derived.Test.YtnmljalcndfjmaaGreatNG13
import Derived.Test.YtnmljalcndfjmaaGreatNG17
import Derived.Deep.RegionHeld3
import Derived.Test.YtnmljalcndfjmaaGreatNG19
import Derived.Test.YtnmljalcndfjmaaGreatNG18
namespace Go.Proofs.YtnmljalcndfjmaaGreat

section
open Go.RowKit
set_option maxRecDepth 100000 in
set_option maxHeartbeats 8000000 in
theorem related_any {na:Option Addr} {nn nc:Nat} {sa:Option Addr} {sn sc:Nat} {ra:Option Addr} {rn rc:Nat} {la:Option Addr} {ln lc:Nat} {ia:Option Addr} {im ic:Nat} {ta:Option Addr} {tn tc:Nat} {x:WD} {wa:Option Addr} {wn wc:Nat} {wd:List Int} {w:World} {lo hi lo' I:Nat} {L:Nat} (h:RdW lo hi w na nn nc sa sn sc ra rn rc la ln lc ia im ic ta tn tc x) (h':Rd lo' I w wa wn wc wd) (hn:x.n=(L:Int)) (Y:hi≤w.heap.size) (O:I≤w.heap.size) (T:worldB x=true) :
    Calls Tryz.prog 97 #[.agg #[.int .i64 (L:Int),.slice ia im ic,.slice ta tn tc,.int .i64 (L:Int),.slice na nn nc,.slice sa sn sc,.slice ra rn rc,.slice la ln lc,.slice ia im ic,.slice ta tn tc],.slice wa wn wc] w fun e w'=>∃ b2 o2 c,e=.returned (.slice (some ⟨b2,o2,none⟩) (L*L) c)∧((L*L≤c∧c≤9223372036854775807)∧(b2<hi∨w.heap.size≤b2))∧(∀ q,q<L*L→w'.cell? ⟨b2,o2+q,none⟩=some (.bool (flagO x.roles x.rels wd q)))∧Below w.heap.size w w':=by
 obtain ⟨W0,A⟩:∃ W0,W0=w.alloc (.cells #[.int .i64 (L:Int),.slice ia im ic,.slice ta tn tc,.int .i64 (L:Int),.slice na nn nc,.slice sa sn sc,.slice ra rn rc,.slice la ln lc,.slice ia im ic,.slice ta tn tc] 74):=⟨_,rfl⟩;have J:Hid (W0=w.alloc (.cells #[.int .i64 (L:Int),.slice ia im ic,.slice ta tn tc,.int .i64 (L:Int),.slice na nn nc,.slice sa sn sc,.slice ra rn rc,.slice la ln lc,.slice ia im ic,.slice ta tn tc] 74)):=A;have G:Below w.heap.size w W0:=by rw [A];exact (Below.refl _ _).alloc (Nat.le_refl _) _
 have D:Hid (Below w.heap.size w W0):=G;have HR:Hid (RdW lo hi W0 na nn nc sa sn sc ra rn rc la ln lc ia im ic ta tn tc x):=h.below G Y;have HW:Hid (Rd lo' I W0 wa wn wc wd):=h'.below G O;have HI:Hid _:=(worldB_iff x).1 T;have H:1≤L∧L≤128:=by have h1:=HI.out.1.1;rw [hn] at h1;omega
 obtain ⟨sq,y⟩:∃ sq,sq=L*L:=⟨_,rfl⟩;have E:(L:Int)*(L:Int)=(sq:Int):=by rw [y];simp
 have N:1≤sq∧sq≤16384:=by
  rw [y];exact ⟨Nat.mul_le_mul H.1 H.1,Nat.le_trans (Nat.mul_le_mul H.2 H.2) (by decide)⟩
 rw [← y];have X:ln=rn:=by have h1:=HI.out.1.2.2.2.2.2.1;rw [h.rels.len,h.roles.len] at h1;exact h1
 subst X
 have a0:Hid (∀ i,i<ln→(x.rels.getD i []).length=sq):=fun i hi=>by
  have h1:=flags_long HI.out.2.2.2.1 (i:=i) (by rw [h.rels.len];exact hi);rw [hn,E] at h1;omega
 have HA:Hid (Asc x.roles):=asc_of HI.out.2.1.2.1;have R:Hid (ln≤1048576):=by have h1:=HI.out.1.2.2.1;rw [h.roles.len] at h1;unfold Hid;omega
 have Z:Hid (1≤sq∧sq≤16384):=N;clear h h' G A hn T y;go_enter Tryz.func97, Tryz.ntmps97;go_wp2_with fail;rw [← J.out];refine (flagsOf_any ra ln rc x.roles la lc x.rels wa wn wc wd sq W0 HR.out.roles HR.out.rels HW.out HA.out R.out a0.out Z.out).mono ?_;rintro e w5 ⟨b2,o2,c,rfl,hf,hc,V⟩;have HC:Hid (∀ q,q<sq→w5.cell? ⟨b2,o2+q,none⟩=some (.bool (flagO x.roles x.rels wd q))):=hc;have a1:Hid (Below w.heap.size w w5):=D.out.trans (V.mono D.out.size);clear hc V;go_wp2_with fail;go_ret;exact ⟨b2,o2,c,rfl,⟨hf.1,hf.2.imp id (fun h=>Nat.le_trans D.out.size h)⟩,HC.out,a1.out⟩
set_option maxRecDepth 100000 in
set_option maxHeartbeats 4000000 in
theorem row_any {na:Option Addr} {nn nc:Nat} {sa:Option Addr} {sn sc:Nat} {ra:Option Addr} {rn rc:Nat} {la:Option Addr} {ln lc:Nat} {ia:Option Addr} {im ic:Nat} {ta:Option Addr} {tn tc:Nat} {w:World} {L p b2 o2 c:Nat} (hL:L≤128) (hp:p<L) (hc:L*L≤c∧c≤9223372036854775807) :
    Calls Tryz.prog 100 #[.agg #[.int .i64 (L:Int),.slice ia im ic,.slice ta tn tc,.int .i64 (L:Int),.slice na nn nc,.slice sa sn sc,.slice ra rn rc,.slice la ln lc,.slice ia im ic,.slice ta tn tc],.slice (some ⟨b2,o2,none⟩) (L*L) c,.int .i64 p] w fun e w'=>e=.returned (.slice (some ⟨b2,o2+p*L,none⟩) L (c - p*L))∧Below w.heap.size w w':=by
 obtain ⟨W0,A⟩:∃ W0,W0=w.alloc (.cells #[.int .i64 (L:Int),.slice ia im ic,.slice ta tn tc,.int .i64 (L:Int),.slice na nn nc,.slice sa sn sc,.slice ra rn rc,.slice la ln lc,.slice ia im ic,.slice ta tn tc] 74):=⟨_,rfl⟩;have J:Hid (W0=w.alloc (.cells #[.int .i64 (L:Int),.slice ia im ic,.slice ta tn tc,.int .i64 (L:Int),.slice na nn nc,.slice sa sn sc,.slice ra rn rc,.slice la ln lc,.slice ia im ic,.slice ta tn tc] 74)):=A;have D:Hid (Below w.heap.size w W0):=by rw [A];exact (Below.refl _ _).alloc (Nat.le_refl _) _
 have U:BoxS W0 w.heap.size (.int .i64 (L:Int)) (.slice ia im ic) (.slice ta tn tc) (.int .i64 (L:Int)) (.slice na nn nc) (.slice sa sn sc) (.slice ra rn rc) (.slice la ln lc) (.slice ia im ic) (.slice ta tn tc):=by rw [A];exact BoxS.new w _ _ _ _ _ _ _ _ _ _
 obtain ⟨m0,m1,m2,m3,m4,m5,m6,m7,m8,m9⟩:=U.cells;obtain ⟨sq,y⟩:∃ sq,sq=L*L:=⟨_,rfl⟩;obtain ⟨pp,F⟩:∃ pp,pp=p*L:=⟨_,rfl⟩;have E:(p:Int)*(L:Int)=(pp:Int):=by rw [F];simp
 have a3:pp+L≤sq:=by
  rw [F,y];have h1:(p+1)*L≤L*L:=Nat.mul_le_mul_right L hp;have h2:(p+1)*L=p*L+L:=by rw [Nat.add_mul,Nat.one_mul]
  omega
 have a2:sq≤16384:=by rw [y];exact Nat.le_trans (Nat.mul_le_mul hL hL) (by decide)
 rw [← y] at hc ⊢;rw [← F];obtain ⟨a5,a4⟩:=hc;clear y F A U;go_enter Tryz.func100, Tryz.ntmps100;go_upto_region 1 with fail;rw [← J.out]
 first | go_region | fail
 all_goals
  go_wp2_with fail;go_ret;exact ⟨rfl,D.out.drew⟩
end

section
open Go.RowKit Go.Deep
set_option linter.unusedVariables false
theorem topQ_any (e:Nat) (V:World):Calls Tryz.prog 93 #[.int .i64 e] V fun r w'=>r=.returned (.bool true)∧w'=V:=by
 go_enter Tryz.func93, Tryz.ntmps93;go_wp2_with fail;go_ret;exact ⟨rfl,rfl⟩
theorem botQ_any (e:Nat) (V:World):Calls Tryz.prog 103 #[.int .i64 e] V fun r w'=>r=.returned (.bool false)∧w'=V:=by
 go_enter Tryz.func103, Tryz.ntmps103;go_wp2_with fail;go_ret;exact ⟨rfl,rfl⟩
set_option maxRecDepth 100000 in
set_option maxHeartbeats 2000000 in
theorem notQ_any {po ob oc b o c L e:Nat} {f:Nat→Bool} {V:World} (h1:V.cell? ⟨po,0,none⟩=some (.slice (some ⟨ob,0,none⟩) 1 oc)) (h2:V.cell? ⟨ob,0,none⟩=some (.slice (some ⟨b,o,none⟩) L c)) (hf:FlS V b o L f) (he:e<L) :
    Calls Tryz.prog 94 #[.int .i64 e,.pointer (some ⟨po,0,none⟩)] V fun r w'=>r=.returned (.bool (!(f e)))∧w'=V:=by
 have h3:=hf.2 e he;have N:(e:Int)<(L:Int):=by omega
 obtain ⟨x,hx⟩:∃ x,x=f e:=⟨_,rfl⟩;rw [← hx] at h3 ⊢;clear hf hx;go_enter Tryz.func94, Tryz.ntmps94;go_wp2_with fail;go_ret;exact ⟨rfl,rfl⟩
set_option maxRecDepth 100000 in
set_option maxHeartbeats 2000000 in
theorem andQ_any {po ob oc b o c b' o' c' L e:Nat} {f g:Nat→Bool} {V:World} (h1:V.cell? ⟨po,0,none⟩=some (.slice (some ⟨ob,0,none⟩) 2 oc)) (h2:V.cell? ⟨ob,0,none⟩=some (.slice (some ⟨b,o,none⟩) L c)) (O:V.cell? ⟨ob,1,none⟩=some (.slice (some ⟨b',o',none⟩) L c')) (hf:FlS V b o L f) (hg:FlS V b' o' L g) (he:e<L) :
    Calls Tryz.prog 95 #[.int .i64 e,.pointer (some ⟨po,0,none⟩)] V fun r w'=>r=.returned (.bool (f e && g e))∧w'=V:=by
 have h3:=hf.2 e he;have h4:=hg.2 e he;have N:(e:Int)<(L:Int):=by omega
 obtain ⟨x,hx⟩:∃ x,x=f e:=⟨_,rfl⟩;obtain ⟨y,hy⟩:∃ y,y=g e:=⟨_,rfl⟩;rw [← hx] at h3 ⊢;rw [← hy] at h4 ⊢;clear hf hg hx hy;cases x
 · go_enter Tryz.func95, Tryz.ntmps95;go_wp2_with fail;go_ret;exact ⟨rfl,rfl⟩
 go_enter Tryz.func95, Tryz.ntmps95;go_wp2_with fail;go_ret;exact ⟨rfl,rfl⟩
set_option maxRecDepth 100000 in
set_option maxHeartbeats 2000000 in
theorem orQ_any {po ob oc b o c b' o' c' L e:Nat} {f g:Nat→Bool} {V:World} (h1:V.cell? ⟨po,0,none⟩=some (.slice (some ⟨ob,0,none⟩) 2 oc)) (h2:V.cell? ⟨ob,0,none⟩=some (.slice (some ⟨b,o,none⟩) L c)) (O:V.cell? ⟨ob,1,none⟩=some (.slice (some ⟨b',o',none⟩) L c')) (hf:FlS V b o L f) (hg:FlS V b' o' L g) (he:e<L) :
    Calls Tryz.prog 96 #[.int .i64 e,.pointer (some ⟨po,0,none⟩)] V fun r w'=>r=.returned (.bool (f e || g e))∧w'=V:=by
 have h3:=hf.2 e he;have h4:=hg.2 e he;have N:(e:Int)<(L:Int):=by omega
 obtain ⟨x,hx⟩:∃ x,x=f e:=⟨_,rfl⟩;obtain ⟨y,hy⟩:∃ y,y=g e:=⟨_,rfl⟩;rw [← hx] at h3 ⊢;rw [← hy] at h4 ⊢;clear hf hg hx hy;cases x
 · go_enter Tryz.func96, Tryz.ntmps96;go_wp2_with fail;go_ret;exact ⟨rfl,rfl⟩
 go_enter Tryz.func96, Tryz.ntmps96;go_wp2_with fail;go_ret;exact ⟨rfl,rfl⟩
set_option maxRecDepth 100000 in
set_option maxHeartbeats 4000000 in
theorem someQ_any {na:Option Addr} {nn nc:Nat} {sa:Option Addr} {sn sc:Nat} {ra:Option Addr} {rn rc:Nat} {la:Option Addr} {ln lc:Nat} {ia:Option Addr} {im ic:Nat} {ta:Option Addr} {tn tc:Nat} {ps pr po ob oc b o c rb ro D L e:Nat} {fr f:Nat→Bool} {w:World} (hL:L≤128) (hs:BoxS w ps (.int .i64 L) (.slice ia im ic) (.slice ta tn tc) (.int .i64 L) (.slice na nn nc) (.slice sa sn sc) (.slice ra rn rc) (.slice la ln lc) (.slice ia im ic) (.slice ta tn tc)) (h0:w.cell? ⟨pr,0,none⟩=some (.slice (some ⟨rb,ro,none⟩) (L*L) D)) (I:L*L≤D∧D≤9223372036854775807) (hr:FlS w rb ro (L*L) fr)
    (h1:w.cell? ⟨po,0,none⟩=some (.slice (some ⟨ob,0,none⟩) 1 oc)) (h2:w.cell? ⟨ob,0,none⟩=some (.slice (some ⟨b,o,none⟩) L c)) (E:pr<w.heap.size∧po<w.heap.size∧ob<w.heap.size) (hf:FlS w b o L f) (hc:L≤c∧c≤9223372036854775807) (he:e<L) :
    Calls Tryz.prog 98 #[.int .i64 e,.pointer (some ⟨ps,0,none⟩),.pointer (some ⟨pr,0,none⟩),.pointer (some ⟨po,0,none⟩)] w fun r w'=>r=.returned (.bool ((List.range L).any (fun y=>fr (e*L+y) && f y)))∧Below w.heap.size w w':=by
 have A:Hid (∀ V,Below w.heap.size w V→(V.cell? ⟨ps,0,none⟩=some (.int .i64 L)∧V.cell? ⟨ps,1,none⟩=some (.slice ia im ic)∧V.cell? ⟨ps,2,none⟩=some (.slice ta tn tc)∧V.cell? ⟨ps,3,none⟩=some (.int .i64 L)∧V.cell? ⟨ps,4,none⟩=some (.slice na nn nc)∧V.cell? ⟨ps,5,none⟩=some (.slice sa sn sc)∧V.cell? ⟨ps,6,none⟩=some (.slice ra rn rc)∧V.cell? ⟨ps,7,none⟩=some (.slice la ln lc)∧V.cell? ⟨ps,8,none⟩=some (.slice ia im ic)∧V.cell? ⟨ps,9,none⟩=some (.slice ta tn tc))∧V.cell? ⟨pr,0,none⟩=some (.slice (some ⟨rb,ro,none⟩) (L*L) D)∧V.cell? ⟨po,0,none⟩=some (.slice (some ⟨ob,0,none⟩) 1 oc)∧V.cell? ⟨ob,0,none⟩=some (.slice (some ⟨b,o,none⟩) L c)):=fun V hV=>⟨(hs.below hV hs.lt).cells,(hV.cell (p:=⟨pr,0,none⟩) E.1).trans h0,(hV.cell (p:=⟨po,0,none⟩) E.2.1).trans h1,(hV.cell (p:=⟨ob,0,none⟩) E.2.2).trans h2⟩
 have Hd:Hid (Below w.heap.size w w.drew):=(Below.refl _ _).drew
 have F:Hid (∀ V,Below w.heap.size w V→FlS V rb (ro+e*L) L (fun y=>fr (e*L+y))):=fun V hV=>⟨(hr.below hV).1,fun q hq=>by
  have h:=(hr.below hV).2 (e*L+q) (cell_lt he hq);rw [Nat.add_assoc]
  exact h⟩
 have HF:Hid (∀ V,Below w.heap.size w V→FlS V b o L f):=fun V hV=>hf.below hV
 have J:L≤D - e*L∧D - e*L≤9223372036854775807:=by
  have h1:e*L+L≤L*L:=by
   have h2:(e+1)*L≤L*L:=Nat.mul_le_mul_right _ he;rw [Nat.add_mul,Nat.one_mul] at h2;exact h2
  omega
 obtain ⟨R,hR⟩:∃ R,R=((List.range L).any (fun y=>fr (e*L+y) && f y)):=⟨_,rfl⟩;have HR:Hid (R=((List.range L).any (fun y=>fr (e*L+y) && f y))):=hR;rw [← hR];obtain ⟨⟨a0,a1,a2,a3,a4,a5,a6,a7,a8,a9⟩,q0,q1,q2⟩:=A.out w (Below.refl _ _);clear hs h0 hr h1 h2 hf hR;go_enter Tryz.func98, Tryz.ntmps98;go_upto_region 1 with fail
 first | go_region_held3 (fun V=>(V.cell? ⟨ps,0,none⟩=some (.int .i64 L)∧V.cell? ⟨ps,1,none⟩=some (.slice ia im ic)∧V.cell? ⟨ps,2,none⟩=some (.slice ta tn tc)∧V.cell? ⟨ps,3,none⟩=some (.int .i64 L)∧V.cell? ⟨ps,4,none⟩=some (.slice na nn nc)∧V.cell? ⟨ps,5,none⟩=some (.slice sa sn sc)∧V.cell? ⟨ps,6,none⟩=some (.slice ra rn rc)∧V.cell? ⟨ps,7,none⟩=some (.slice la ln lc)∧V.cell? ⟨ps,8,none⟩=some (.slice ia im ic)∧V.cell? ⟨ps,9,none⟩=some (.slice ta tn tc))∧V.cell? ⟨pr,0,none⟩=some (.slice (some ⟨rb,ro,none⟩) (L*L) D)∧V.cell? ⟨po,0,none⟩=some (.slice (some ⟨ob,0,none⟩) 1 oc)∧V.cell? ⟨ob,0,none⟩=some (.slice (some ⟨b,o,none⟩) L c)) (first | with_reducible exact A.out _ H2.out | with_reducible exact A.out _ H1.out | with_reducible exact A.out _ Hd.out) (first | (go_at_call 100;refine (row_any hL he I).mono ?_;rintro r w1 ⟨rfl,H⟩;have H1:Hid (Below w.heap.size w w1):=Hd.out.trans H;clear H) | (go_at_call 99;refine (meets_any (by omega) (F.out w1 H1.out) (HF.out w1 H1.out) J hc).mono ?_;rintro r w2 ⟨rfl,G⟩;rw [← HR.out,G];have H2:Hid (Below w.heap.size w w1):=H1.out;clear G)) | fail
 all_goals
  go_wp2_with fail;go_ret;exact ⟨rfl,H1.out⟩
set_option maxRecDepth 100000 in
set_option maxHeartbeats 4000000 in
theorem allQ_any {na:Option Addr} {nn nc:Nat} {sa:Option Addr} {sn sc:Nat} {ra:Option Addr} {rn rc:Nat} {la:Option Addr} {ln lc:Nat} {ia:Option Addr} {im ic:Nat} {ta:Option Addr} {tn tc:Nat} {ps pr po ob oc b o c rb ro D L e:Nat} {fr f:Nat→Bool} {w:World} (hL:L≤128) (hs:BoxS w ps (.int .i64 L) (.slice ia im ic) (.slice ta tn tc) (.int .i64 L) (.slice na nn nc) (.slice sa sn sc) (.slice ra rn rc) (.slice la ln lc) (.slice ia im ic) (.slice ta tn tc)) (h0:w.cell? ⟨pr,0,none⟩=some (.slice (some ⟨rb,ro,none⟩) (L*L) D)) (I:L*L≤D∧D≤9223372036854775807) (hr:FlS w rb ro (L*L) fr)
    (h1:w.cell? ⟨po,0,none⟩=some (.slice (some ⟨ob,0,none⟩) 1 oc)) (h2:w.cell? ⟨ob,0,none⟩=some (.slice (some ⟨b,o,none⟩) L c)) (E:pr<w.heap.size∧po<w.heap.size∧ob<w.heap.size) (hf:FlS w b o L f) (hc:L≤c∧c≤9223372036854775807) (he:e<L) :
    Calls Tryz.prog 101 #[.int .i64 e,.pointer (some ⟨ps,0,none⟩),.pointer (some ⟨pr,0,none⟩),.pointer (some ⟨po,0,none⟩)] w fun r w'=>r=.returned (.bool ((List.range L).all (fun y=>!(fr (e*L+y)) || f y)))∧Below w.heap.size w w':=by
 have A:Hid (∀ V,Below w.heap.size w V→(V.cell? ⟨ps,0,none⟩=some (.int .i64 L)∧V.cell? ⟨ps,1,none⟩=some (.slice ia im ic)∧V.cell? ⟨ps,2,none⟩=some (.slice ta tn tc)∧V.cell? ⟨ps,3,none⟩=some (.int .i64 L)∧V.cell? ⟨ps,4,none⟩=some (.slice na nn nc)∧V.cell? ⟨ps,5,none⟩=some (.slice sa sn sc)∧V.cell? ⟨ps,6,none⟩=some (.slice ra rn rc)∧V.cell? ⟨ps,7,none⟩=some (.slice la ln lc)∧V.cell? ⟨ps,8,none⟩=some (.slice ia im ic)∧V.cell? ⟨ps,9,none⟩=some (.slice ta tn tc))∧V.cell? ⟨pr,0,none⟩=some (.slice (some ⟨rb,ro,none⟩) (L*L) D)∧V.cell? ⟨po,0,none⟩=some (.slice (some ⟨ob,0,none⟩) 1 oc)∧V.cell? ⟨ob,0,none⟩=some (.slice (some ⟨b,o,none⟩) L c)):=fun V hV=>⟨(hs.below hV hs.lt).cells,(hV.cell (p:=⟨pr,0,none⟩) E.1).trans h0,(hV.cell (p:=⟨po,0,none⟩) E.2.1).trans h1,(hV.cell (p:=⟨ob,0,none⟩) E.2.2).trans h2⟩
 have Hd:Hid (Below w.heap.size w w.drew):=(Below.refl _ _).drew
 have F:Hid (∀ V,Below w.heap.size w V→FlS V rb (ro+e*L) L (fun y=>fr (e*L+y))):=fun V hV=>⟨(hr.below hV).1,fun q hq=>by
  have h:=(hr.below hV).2 (e*L+q) (cell_lt he hq);rw [Nat.add_assoc]
  exact h⟩
 have HF:Hid (∀ V,Below w.heap.size w V→FlS V b o L f):=fun V hV=>hf.below hV
 have J:L≤D - e*L∧D - e*L≤9223372036854775807:=by
  have h1:e*L+L≤L*L:=by
   have h2:(e+1)*L≤L*L:=Nat.mul_le_mul_right _ he;rw [Nat.add_mul,Nat.one_mul] at h2;exact h2
  omega
 obtain ⟨R,hR⟩:∃ R,R=((List.range L).all (fun y=>!(fr (e*L+y)) || f y)):=⟨_,rfl⟩;have HR:Hid (R=((List.range L).all (fun y=>!(fr (e*L+y)) || f y))):=hR;rw [← hR];obtain ⟨⟨a0,a1,a2,a3,a4,a5,a6,a7,a8,a9⟩,q0,q1,q2⟩:=A.out w (Below.refl _ _);clear hs h0 hr h1 h2 hf hR;go_enter Tryz.func101, Tryz.ntmps101;go_upto_region 1 with fail
 first | go_region_held3 (fun V=>(V.cell? ⟨ps,0,none⟩=some (.int .i64 L)∧V.cell? ⟨ps,1,none⟩=some (.slice ia im ic)∧V.cell? ⟨ps,2,none⟩=some (.slice ta tn tc)∧V.cell? ⟨ps,3,none⟩=some (.int .i64 L)∧V.cell? ⟨ps,4,none⟩=some (.slice na nn nc)∧V.cell? ⟨ps,5,none⟩=some (.slice sa sn sc)∧V.cell? ⟨ps,6,none⟩=some (.slice ra rn rc)∧V.cell? ⟨ps,7,none⟩=some (.slice la ln lc)∧V.cell? ⟨ps,8,none⟩=some (.slice ia im ic)∧V.cell? ⟨ps,9,none⟩=some (.slice ta tn tc))∧V.cell? ⟨pr,0,none⟩=some (.slice (some ⟨rb,ro,none⟩) (L*L) D)∧V.cell? ⟨po,0,none⟩=some (.slice (some ⟨ob,0,none⟩) 1 oc)∧V.cell? ⟨ob,0,none⟩=some (.slice (some ⟨b,o,none⟩) L c)) (first | with_reducible exact A.out _ H2.out | with_reducible exact A.out _ H1.out | with_reducible exact A.out _ Hd.out) (first | (go_at_call 100;refine (row_any hL he I).mono ?_;rintro r w1 ⟨rfl,H⟩;have H1:Hid (Below w.heap.size w w1):=Hd.out.trans H;clear H) | (go_at_call 102;refine (within_any (by omega) (F.out w1 H1.out) (HF.out w1 H1.out) J hc).mono ?_;rintro r w2 ⟨rfl,G⟩;rw [← HR.out,G];have H2:Hid (Below w.heap.size w w1):=H1.out;clear G)) | fail
 all_goals
  go_wp2_with fail;go_ret;exact ⟨rfl,H1.out⟩
end

section
open Go.RowKit
theorem toksFrom_place (zs:List Int):∀ (f i:Nat) (y:List Tok),(∀ t∈y,0≤t.place)→(∀ t∈(toksFrom zs f i y).1,0≤t.place)∧((toksFrom zs f i y).2=-1∨0≤(toksFrom zs f i y).2)
 | 0,_,y,h=>⟨by simpa [toksFrom] using h,.inl rfl⟩
 | f+1,i,y,h=>by
  rw [toksFrom]
  split
  · split
    · exact toksFrom_place zs f (i+1) y h
    split
    · exact ⟨fun t ht=>by simp at ht,.inr (Int.natCast_nonneg i)⟩
    refine toksFrom_place zs f (pend zs i) (y++[tokAt zs i]) (fun t ht=>?_);rcases List.mem_append.1 ht with ht | ht
    · exact h t ht
    simp only [List.mem_singleton] at ht;subst ht;exact Int.natCast_nonneg i
  exact ⟨h,.inl rfl⟩
theorem toks_place (zs:List Int):(∀ i,0≤((toks zs).1.getD i Tok.zero).place)∧((toks zs).2=-1∨0≤(toks zs).2):=by
 have h:(∀ t∈(toks zs).1,0≤t.place)∧((toks zs).2=-1∨0≤(toks zs).2):=by
  unfold toks
  split
  · exact ⟨fun t ht=>by simp at ht,.inr (by simp)⟩
  exact toksFrom_place zs _ _ _ (fun t ht=>by simp at ht)
 refine ⟨fun i=>?_,h.2⟩;by_cases hi:i<(toks zs).1.length
 · have e:(toks zs).1.getD i Tok.zero=(toks zs).1[i]:=by simp [List.getD,hi]
   rw [e];exact h.1 _ (List.getElem_mem hi)
 have e:(toks zs).1.getD i Tok.zero=Tok.zero:=by simp [List.getD,List.getElem?_eq_none (Nat.le_of_not_lt hi)]
 rw [e];simp [Tok.zero]
theorem toksFrom_word (zs:List Int):∀ (f i:Nat) (y:List Tok),(∀ t∈y,t.kind=1∨t.kind=2→1≤t.text.length)→∀ t∈(toksFrom zs f i y).1,t.kind=1∨t.kind=2→1≤t.text.length
 | 0,_,y,h=>by simpa [toksFrom] using h
 | f+1,i,y,h=>by
  rw [toksFrom]
  split
  · split
    · exact toksFrom_word zs f (i+1) y h
    split
    · intro t ht;simp at ht
    refine toksFrom_word zs f (pend zs i) (y++[tokAt zs i]) (fun t ht=>?_);rcases List.mem_append.1 ht with ht | ht
    · exact h t ht
    simp only [List.mem_singleton] at ht;subst ht;intro hk
    have hb:∀ p:List Int,longB p.length=true→1≤p.length:=fun p hp=>by
     simp only [longB,Bool.and_eq_true,decide_eq_true_eq] at hp;exact hp.1
    simp only [tokAt] at hk ⊢;rw [if_pos hk];unfold kindOf at hk
    split at hk
    · rename_i hu
      simp only [upOk,Bool.and_eq_true] at hu;exact hb _ hu.1
    split at hk
    · rename_i hu
      simp only [lowOk,Bool.and_eq_true] at hu;exact hb _ hu.1
    split at hk
    · simp at hk
    split at hk <;> simp at hk
  exact h
theorem toks_word (zs:List Int) (q:Nat) (h:isI (toks zs).1 1 q=true∨isI (toks zs).1 2 q=true):1≤(wordI (toks zs).1 q).length:=by
 have A:∀ t∈(toks zs).1,t.kind=1∨t.kind=2→1≤t.text.length:=by
  unfold toks
  split
  · intro t ht;simp at ht
  exact toksFrom_word zs _ _ _ (fun t ht=>by simp at ht)
 have hi:q<(toks zs).1.length:=by rcases h with h | h <;> exact isI_lt h
 have hk:((toks zs).1.getD q Tok.zero).kind=1∨((toks zs).1.getD q Tok.zero).kind=2:=by
  rcases h with h | h
  · exact .inl (isI_kind h)
  exact .inr (isI_kind h)
 have e:(toks zs).1.getD q Tok.zero=(toks zs).1[q]:=by simp [List.getD,hi]
 unfold wordI;rw [e] at hk ⊢;exact A _ (List.getElem_mem hi) hk
theorem toks_tks (zs:List Int) (n:Nat):Tks (toks zs).1 (n:Nat) :=
 ⟨(toks_bound zs).1,fun q=>by unfold hereI;split;exact (toks_place zs).1 q;exact Int.natCast_nonneg n,toks_word zs,toks_short zs⟩
end

section
open Go.RowKit
theorem inSet_no {x:WD} {wd:List Int} {z:Int} (h:worldB x=false∨hasB x.n z=false):inSetB x wd z=false:=by
 unfold inSetB;rcases h with h | h <;> simp [h]
set_option maxRecDepth 100000 in
set_option maxHeartbeats 2000000 in
theorem implInSet_any {na:Option Addr} {nn nc:Nat} {sa:Option Addr} {sn sc:Nat} {ra:Option Addr} {rn rc:Nat} {la:Option Addr} {ln lc:Nat} {ia:Option Addr} {im ic:Nat} {ta:Option Addr} {tn tc:Nat} {x:WD} {wa:Option Addr} {wn wc:Nat} {wd:List Int} {w:World} {lo hi lo' E:Nat} {nx z:Int} (h:RdW lo hi w na nn nc sa sn sc ra rn rc la ln lc ia im ic ta tn tc x) (h':Rd lo' E w wa wn wc wd) (hn:x.n=nx) (V:hi≤w.heap.size) (I:E≤w.heap.size) :
    Calls Tryz.prog 36 #[.agg #[.int .i64 nx,.slice na nn nc,.slice sa sn sc,.slice ra rn rc,.slice la ln lc,.slice ia im ic,.slice ta tn tc],.slice wa wn wc,.int .i64 z] w fun e w'=>e=.returned (.bool (inSetB x wd z))∧Below w.heap.size w w':=by
 obtain ⟨W0,N⟩:∃ W0,W0=w.alloc (.cells #[.int .i64 nx,.slice na nn nc,.slice sa sn sc,.slice ra rn rc,.slice la ln lc,.slice ia im ic,.slice ta tn tc] 27):=⟨_,rfl⟩;have a6:Hid (W0=w.alloc (.cells #[.int .i64 nx,.slice na nn nc,.slice sa sn sc,.slice ra rn rc,.slice la ln lc,.slice ia im ic,.slice ta tn tc] 27)):=N;have F:Below w.heap.size w W0:=by rw [N];exact (Below.refl _ _).alloc (Nat.le_refl _) _
 have G:Hid (Below w.heap.size w W0):=F;have Y:BoxW 27 W0 w.heap.size nx (.slice na nn nc) (.slice sa sn sc) (.slice ra rn rc) (.slice la ln lc) (.slice ia im ic) (.slice ta tn tc):=by rw [N];exact BoxW.new _ w _ _ _ _ _ _ _
 have HR:Hid (RdW lo hi W0 na nn nc sa sn sc ra rn rc la ln lc ia im ic ta tn tc x):=h.below F V;have a5:Hid (Rd lo' E W0 wa wn wc wd):=h'.below F I;have D:Hid (hi≤W0.heap.size∧E≤W0.heap.size):=⟨Nat.le_trans V F.size,Nat.le_trans I F.size⟩;have HN:Hid (x.n=nx):=hn;obtain ⟨z0,z1,z2,z3,z4,z5,z6⟩:=Y.cells;clear h h' F N Y hn;go_enter Tryz.func36, Tryz.ntmps36;go_upto_region 1 with fail;rw [← a6.out];go_wp2_with fail;refine (sceneOf_any HR.out HN.out D.out.1).mono ?_;rintro e wA ⟨rfl,hA⟩;have O:Hid (Below W0.heap.size W0 wA):=hA;clear hA z0 z1 z2 z3 z4 z5 z6;cases hok:worldB x
 · have HG:Hid (inSetB x wd z=false):=inSet_no (.inl hok);rw [show ∀ u v,whichV false u v=v from fun _ _=>rfl];have a8:Hid (Below w.heap.size w (wA.alloc (.cells #[.int .i64 0,.slice none 0 0,.slice none 0 0,.int .i64 0,.slice none 0 0,.slice none 0 0,.slice none 0 0,.slice none 0 0,.slice none 0 0,.slice none 0 0] 74))):=(G.out.trans (O.out.mono G.out.size)).alloc (Nat.le_trans G.out.size O.out.size) _;clear hok;go_wp2_with fail;go_ret;exact ⟨rb HG.out.symm,a8.out⟩
 rw [show ∀ u v,whichV true u v=u from fun _ _=>rfl];obtain ⟨U,hU⟩:∃ U,U=wA.alloc (.cells #[.int .i64 nx,.slice ia im ic,.slice ta tn tc,.int .i64 nx,.slice na nn nc,.slice sa sn sc,.slice ra rn rc,.slice la ln lc,.slice ia im ic,.slice ta tn tc] 74):=⟨_,rfl⟩;have HU:Hid (U=wA.alloc (.cells #[.int .i64 nx,.slice ia im ic,.slice ta tn tc,.int .i64 nx,.slice na nn nc,.slice sa sn sc,.slice ra rn rc,.slice la ln lc,.slice ia im ic,.slice ta tn tc] 74)):=hU;have J:BoxS U wA.heap.size (.int .i64 nx) (.slice ia im ic) (.slice ta tn tc) (.int .i64 nx) (.slice na nn nc) (.slice sa sn sc) (.slice ra rn rc) (.slice la ln lc) (.slice ia im ic) (.slice ta tn tc):=by rw [hU];exact BoxS.new wA _ _ _ _ _ _ _ _ _ _
 have A:Hid (Below W0.heap.size W0 U):=by unfold Hid;rw [hU];exact O.out.alloc O.out.size _
 have a0:Hid (∀ W,Below U.heap.size U W→Below w.heap.size w W):=fun W hW=>(G.out.trans (A.out.mono G.out.size)).trans (hW.mono (Nat.le_trans G.out.size A.out.size))
 have Z:Hid (∀ W,Below U.heap.size U W→BoxS W wA.heap.size (.int .i64 nx) (.slice ia im ic) (.slice ta tn tc) (.int .i64 nx) (.slice na nn nc) (.slice sa sn sc) (.slice ra rn rc) (.slice la ln lc) (.slice ia im ic) (.slice ta tn tc)):=fun W hW=>J.below hW J.lt
 have R:Hid (∀ W,Below U.heap.size U W→RdW lo hi W na nn nc sa sn sc ra rn rc la ln lc ia im ic ta tn tc x∧Rd lo' E W wa wn wc wd∧hi≤W.heap.size∧E≤W.heap.size):=fun W hW=>⟨(HR.out.below A.out D.out.1).below hW (Nat.le_trans D.out.1 A.out.size),(a5.out.below A.out D.out.2).below hW (Nat.le_trans D.out.2 A.out.size),Nat.le_trans (Nat.le_trans D.out.1 A.out.size) hW.size,Nat.le_trans (Nat.le_trans D.out.2 A.out.size) hW.size⟩
 have ac:Hid (Below U.heap.size U U):=Below.refl _ _;have a7:Hid (worldB x=true):=hok;obtain ⟨m0,m1,m2,m3,m4,m5,m6,m7,m8,m9⟩:=J.cells;clear hU J;cases H:hasB nx z
 · have HG:Hid (inSetB x wd z=false):=inSet_no (.inr (by rw [HN.out];exact H));clear hok;go_upto_region 2 with fail;rw [← HU.out];go_wp2_with (go_at_call 42;refine (has_any _ _ U).mono ?_;rintro e wB ⟨rfl,hq⟩;rw [H];have y:Hid (Below U.heap.size U wB):=hq;clear hq m0 m1 m2 m3 m4 m5 m6 m7 m8 m9;obtain ⟨m0,m1,m2,m3,m4,m5,m6,m7,m8,m9⟩:=(Z.out _ y.out).cells);go_ret;exact ⟨rb HG.out.symm,a0.out _ y.out⟩
 have hz:=H;unfold hasB at hz;rw [decide_eq_true_eq] at hz;obtain ⟨q,HQ⟩:∃ q:Nat,Hid (z=(q:Int)):=⟨z.toNat,by unfold Hid;omega⟩;obtain ⟨Ln,T⟩:∃ Ln:Nat,Hid (nx=(Ln:Int)):=⟨nx.toNat,by unfold Hid;omega⟩;have a2:q<Ln:=by have h1:=HQ.out;have h2:=T.out;omega
 have a1:z=(q:Int):=HQ.out;have a3:nx=(Ln:Int):=T.out;subst a1;subst a3;have HG:Hid (inSetB x wd (q:Int)=flagO x.names x.sets wd q):=by unfold Hid inSetB;rw [hok,HN.out,H];simp
 have a9:(q:Int)<(Ln:Int):=by omega
 clear hz HQ T hok;go_upto_region 2 with fail;rw [← HU.out];go_wp2_with (first | (go_at_call 42;refine (has_any _ _ U).mono ?_;rintro e wB ⟨rfl,hq⟩;rw [H];have y:Hid (Below U.heap.size U wB):=hq;clear hq m0 m1 m2 m3 m4 m5 m6 m7 m8 m9;obtain ⟨m0,m1,m2,m3,m4,m5,m6,m7,m8,m9⟩:=(Z.out _ y.out).cells) | (go_at_call 87;refine (members_any (R.out _ y.out).1 (R.out _ y.out).2.1 HN.out (R.out _ y.out).2.2.1 (R.out _ y.out).2.2.2 a7.out).mono ?_;rintro e wC ⟨b2,o2,c,rfl,aa,X,hq⟩;have a4:Hid (Below U.heap.size U wC):=y.out.trans (hq.mono y.out.size);have ab:=X q a2;clear hq X));go_ret;exact ⟨rb HG.out.symm,a0.out _ a4.out⟩
end

end Go.Proofs.YtnmljalcndfjmaaGreat
