/- What follows of a fact and what holds of all, as the program does it: a contract. -/
import Derived.Test.YtkjmfaohdhiiaaaResF
namespace Go.Proofs.Ytkjmfaohdhiiaaa
open Go.RowKit
set_option linter.unusedVariables false
def zero4:List PT:=[(0,0),(0,0),(0,0),(0,0)]
theorem zero4_get (j:Nat):zero4.getD j (0,0)=(0,0):=by
 match j with
 | 0 | 1 | 2 | 3=>rfl
 | j+4=>rfl
theorem zeroset_get {i j:Nat} (x:PT) (hi:i<4):(zero4.set i x).getD j (0,0)=if i=j then x else (0,0):=by
 by_cases h:i=j
 · subst h;rw [if_pos rfl];simp [List.getD,zero4,hi]
 rw [if_neg h];simp only [List.getD];rw [List.getElem?_set_ne h];have:=zero4_get j;simpa [List.getD] using this
theorem noneB_zero:noneB 0 0=true:=by decide
theorem whoN_zeroset {i:Nat} {x:PT} (hi:i<4) (hx:noneB x.1 x.2=false):∀ n,i<n→n≤4→whoN (zero4.set i x) n=some i
 | 0,h,_=>by omega
 | n+1,h,h4=>by
  rw [whoN,zeroset_get x hi];by_cases e:i=n
  · subst e;rw [if_pos rfl,hx];simp
  rw [if_neg e];rw [if_pos noneB_zero];exact whoN_zeroset hi hx n (by omega) (by omega)
theorem whoN_zeros {i:Nat} {x:PT} (hi:i<4) (hx:noneB x.1 x.2=true):∀ n,whoN (zero4.set i x) n=none
 | 0=>rfl
 | n+1=>by
  rw [whoN,zeroset_get x hi];have:noneB (if i=n then x else (0,0)).1 (if i=n then x else (0,0)).2=true:=by split <;> first | exact hx | exact noneB_zero
  rw [if_pos this];exact whoN_zeros hi hx n
theorem list4_ext {xs ys:List PT} (h1:xs.length=4) (h2:ys.length=4) (h:∀ j,j<4→xs.getD j (0,0)=ys.getD j (0,0)):xs=ys:=by
 refine List.ext_getElem (by omega) (fun j hj ap=>?_);have:=h j (by omega);simpa [List.getD,hj,ap] using this
theorem factsF_zeroset {xs:List PT} {x:PT} {i:Nat} (hl:xs.length=4) (hw:whoN xs 4=some i) (hp:∀ j,j<4→partB (xs.getD j (0,0)).1 (xs.getD j (0,0)).2=true):factsF xs (zero4.set i x)=factsO xs x:=by
 have hi:=(whoN_lt hw).1;have ao:(zero4.set i x).length=4:=by rw [List.length_set];rfl
 unfold factsO;rw [hl,hw];simp only;by_cases hx:noneB x.1 x.2=true
 · rw [factsF_no2 (by rw [hl];exact hw) (by rw [whoN_zeros hi hx];simp),meetP_none hx];rfl
 rw [factsF_yes (by rw [hl];exact hw) (by rw [ao];exact whoN_zeroset hi (by simpa using hx) 4 hi (Nat.le_refl _)),zeroset_get x hi,if_pos rfl]
 congr 1
 funext p
 congr 1
 refine list4_ext (by rw [List.length_set,zipJ_len,hl]) (by rw [List.length_set,hl]) (fun j hj=>?_);by_cases e:i=j
 · subst e;simp [List.getD,zipJ_len,hl,hi]
 simp only [List.getD];rw [List.getElem?_set_ne e,List.getElem?_set_ne e];have h1:=zipJ_getD (xs:=xs) (ys:=zero4.set i x) (i:=j) (by omega);rw [zeroset_get x hi,if_neg e,joinP_zero (hp j hj)] at h1;simpa [List.getD] using h1
theorem factsO_no {xs:List PT} {x:PT} (h:whoN xs xs.length=none):factsO xs x=none:=by unfold factsO;rw [h]
set_option maxRecDepth 100000 in
set_option maxHeartbeats 8000000 in
theorem factWithOne_any {k1 f1 r1 u1 E F A D a1 b1 k2 f2 r2 u2 m r G H a2 b2:Int} {z L:Option Addr} {u I J:Nat} {w:World} {t:List PT} {ab a6:Nat} (a7:RP ab a6 w z 4 u t) (au:a6≤w.heap.size) (ac:∀ j,j<4→partB (t.getD j (0,0)).1 (t.getD j (0,0)).2=true) {o:Option CL} (ho:o=factsO t (m,r)) :
    Calls Try.prog 114 #[.agg #[.int .i64 k1,.int .i64 f1,.int .i64 r1,.int .i64 u1,.int .i64 E,.int .i64 F,.int .i64 A,.int .i64 D,.slice z 4 u,.int .i64 a1,.int .i64 b1],.agg #[.int .i64 k2,.int .i64 f2,.int .i64 r2,.int .i64 u2,.int .i64 m,.int .i64 r,.int .i64 G,.int .i64 H,.slice L I J,.int .i64 a2,.int .i64 b2]] w fun e w'=>Foll o w.heap.size w' e∧Below w.heap.size w w':=by
 have HO:Hid (o=factsO t (m,r)):=ho;have HL:Hid (t.length=4):=a7.len;have az:Hid (∀ j,j<4→partB (t.getD j (0,0)).1 (t.getD j (0,0)).2=true):=ac;have HR:Hid (∀ V,Below w.heap.size w V→RP ab a6 V z 4 u t):=fun V hV=>a7.below hV au
 clear a7 ho ac;obtain ⟨W,hW⟩:∃ W,W=((w.alloc (.cells #[.int .i64 k1,.int .i64 f1,.int .i64 r1,.int .i64 u1,.int .i64 E,.int .i64 F,.int .i64 A,.int .i64 D,.slice z 4 u,.int .i64 a1,.int .i64 b1] 32)).alloc (.cells #[.int .i64 k2,.int .i64 f2,.int .i64 r2,.int .i64 u2,.int .i64 m,.int .i64 r,.int .i64 G,.int .i64 H,.slice L I J,.int .i64 a2,.int .i64 b2] 32)).alloc (.cells #[.int .i64 0,.int .i64 0,.int .i64 0,.int .i64 0,.int .i64 0,.int .i64 0,.int .i64 0,.int .i64 0,.slice none 0 0,.int .i64 0,.int .i64 0] 32):=⟨_,rfl⟩;have HW:Hid (W=((w.alloc (.cells #[.int .i64 k1,.int .i64 f1,.int .i64 r1,.int .i64 u1,.int .i64 E,.int .i64 F,.int .i64 A,.int .i64 D,.slice z 4 u,.int .i64 a1,.int .i64 b1] 32)).alloc (.cells #[.int .i64 k2,.int .i64 f2,.int .i64 r2,.int .i64 u2,.int .i64 m,.int .i64 r,.int .i64 G,.int .i64 H,.slice L I J,.int .i64 a2,.int .i64 b2] 32)).alloc (.cells #[.int .i64 0,.int .i64 0,.int .i64 0,.int .i64 0,.int .i64 0,.int .i64 0,.int .i64 0,.int .i64 0,.slice none 0 0,.int .i64 0,.int .i64 0] 32)):=hW;have ah:Below w.heap.size w W:=by rw [hW];exact (((Below.refl _ _).alloc (Nat.le_refl _) _).alloc (by simp) _).alloc (by simp;omega) _
 have aF:W.heap.size=w.heap.size+3:=by rw [hW];simp
 have a5:BoxK 32 W w.heap.size k1 f1 r1 u1 E F A D (.slice z 4 u) a1 b1:=by
  rw [hW];exact ((BoxK.new 32 w _ _ _ _ _ _ _ _ _ _ _).below ((Below.refl _ _).alloc (Nat.le_refl _) _) (by simp)).below ((Below.refl _ _).alloc (Nat.le_refl _) _) (by simp;omega)
 have a4:BoxK 32 W (w.heap.size+1) k2 f2 r2 u2 m r G H (.slice L I J) a2 b2:=by
  rw [hW];have:=BoxK.new 32 (w.alloc (.cells #[.int .i64 k1,.int .i64 f1,.int .i64 r1,.int .i64 u1,.int .i64 E,.int .i64 F,.int .i64 A,.int .i64 D,.slice z 4 u,.int .i64 a1,.int .i64 b1] 32)) k2 f2 r2 u2 m r G H (.slice L I J) a2 b2;rw [show (w.alloc (.cells #[.int .i64 k1,.int .i64 f1,.int .i64 r1,.int .i64 u1,.int .i64 E,.int .i64 F,.int .i64 A,.int .i64 D,.slice z 4 u,.int .i64 a1,.int .i64 b1] 32)).heap.size=w.heap.size+1 from by simp] at this;exact this.below ((Below.refl _ _).alloc (Nat.le_refl _) _) (by simp)
 have aa:BoxK 32 W (w.heap.size+1+1) 0 0 0 0 0 0 0 0 (.slice none 0 0) 0 0:=by
  rw [hW];have:=BoxK.new 32 ((w.alloc (.cells #[.int .i64 k1,.int .i64 f1,.int .i64 r1,.int .i64 u1,.int .i64 E,.int .i64 F,.int .i64 A,.int .i64 D,.slice z 4 u,.int .i64 a1,.int .i64 b1] 32)).alloc (.cells #[.int .i64 k2,.int .i64 f2,.int .i64 r2,.int .i64 u2,.int .i64 m,.int .i64 r,.int .i64 G,.int .i64 H,.slice L I J,.int .i64 a2,.int .i64 b2] 32)) 0 0 0 0 0 0 0 0 (.slice none 0 0) 0 0;rw [show ((w.alloc (.cells #[.int .i64 k1,.int .i64 f1,.int .i64 r1,.int .i64 u1,.int .i64 E,.int .i64 F,.int .i64 A,.int .i64 D,.slice z 4 u,.int .i64 a1,.int .i64 b1] 32)).alloc (.cells #[.int .i64 k2,.int .i64 f2,.int .i64 r2,.int .i64 u2,.int .i64 m,.int .i64 r,.int .i64 G,.int .i64 H,.slice L I J,.int .i64 a2,.int .i64 b2] 32)).heap.size=w.heap.size+1+1 from by simp] at this;exact this
 have HB:Hid (∀ V,Below W.heap.size W V→BoxK 32 V w.heap.size k1 f1 r1 u1 E F A D (.slice z 4 u) a1 b1∧BoxK 32 V (w.heap.size+1) k2 f2 r2 u2 m r G H (.slice L I J) a2 b2∧BoxK 32 V (w.heap.size+1+1) 0 0 0 0 0 0 0 0 (.slice none 0 0) 0 0):=fun V hV=>⟨a5.below hV (by omega),a4.below hV (by omega),aa.below hV (by omega)⟩
 have HF:Hid (∀ V,Below W.heap.size W V→Below w.heap.size w V):=fun V hV=>ah.trans (hV.mono (by omega))
 have H0:Hid (Below W.heap.size W W):=Below.refl _ _;obtain ⟨y0,y1,y2,y3,y4,y5,y6,y7,y8,y9,O⟩:=a5.cells;obtain ⟨v0,v1,v2,v3,v4,v5,v6,v7,v8,v9,R⟩:=a4.cells;clear hW ah a5 a4 aa;go_enter Try.func114, Try.ntmps114;go_upto_region 1 with fail;rw [← HW.out];go_wp2_with fail;refine (lastWho_any (HR.out _ (HF.out _ H0.out)) (by omega)).mono ?_;rintro e w1 ⟨rfl,ag⟩;have H1:Hid (Below W.heap.size W w1):=ag;clear ag y0 y1 y2 y3 y4 y5 y6 y7 y8 y9 O v0 v1 v2 v3 v4 v5 v6 v7 v8 v9 R;have a3:∀ V:World,(Instr.build 32 #[]).run Try.prog V=.ok (.agg #[.int .i64 0,.int .i64 0,.int .i64 0,.int .i64 0,.int .i64 0,.int .i64 0,.int .i64 0,.int .i64 0,.slice none 0 0,.int .i64 0,.int .i64 0]) V:=fun V=>run_build V _ _ _ (by kernel_rfl)
 cases hw1:whoN t 4 with
 | none =>
  have aB:Hid (o=none):=by rw [Hid,HO.out];exact factsO_no (by rw [HL.out];exact hw1)
  clear hw1;simp only [whoI];go_upto_region 3 with fail;have T:=(HB.out _ H1.out).2.2;have d:=setRow_heap _ (w.heap.size+1+1) _ #[.int .i64 0,.int .i64 0,.int .i64 0,.int .i64 0,.int .i64 0,.int .i64 0,.int .i64 0,.int .i64 0,.slice none 0 0,.int .i64 0,.int .i64 0] _ _ T;have a9:Hid (Below w.heap.size w _):=below_setRow (g:=w.heap.size+1+1) (cs:=#[.int .i64 0,.int .i64 0,.int .i64 0,.int .i64 0,.int .i64 0,.int .i64 0,.int .i64 0,.int .i64 0,.slice none 0 0,.int .i64 0,.int .i64 0]) (HF.out _ H1.out) (by omega);go_wp2_with (first | (refine wpList_store_row rfl 32 (.tmp 4) (.tmp 13) rfl (w.heap.size+1+1) #[.int .i64 0,.int .i64 0,.int .i64 0,.int .i64 0,.int .i64 0,.int .i64 0,.int .i64 0,.int .i64 0,.slice none 0 0,.int .i64 0,.int .i64 0] rfl rfl 32 #[.int .i64 0,.int .i64 0,.int .i64 0,.int .i64 0,.int .i64 0,.int .i64 0,.int .i64 0,.int .i64 0,.slice none 0 0,.int .i64 0,.int .i64 0] T infoCl11 rfl (by simp [Value.oneCell']) ?_) | fail);refine bodyPost_ret (v:=.tuple #[.agg #[.int .i64 0,.int .i64 0,.int .i64 0,.int .i64 0,.int .i64 0,.int .i64 0,.int .i64 0,.int .i64 0,.slice none 0 0,.int .i64 0,.int .i64 0],.bool false]) (results_cell_row2 rfl _ _ (w.heap.size+1+1) 32 #[.int .i64 0,.int .i64 0,.int .i64 0,.int .i64 0,.int .i64 0,.int .i64 0,.int .i64 0,.int .i64 0,.slice none 0 0,.int .i64 0,.int .i64 0] _ _ rfl rfl d Try.underlying32 rfl infoCl11) rfl ⟨?_,a9.out⟩;exact ⟨⟨0,0,0,0,0,0,0,0,[],0,0⟩,.slice none 0 0,false,rfl,.inl ⟨rfl,rfl⟩,by rw [aB.out];rfl⟩
 | some i =>
  have ay:Hid (whoN t 4=some i):=hw1;have aq:i<4:=(whoN_lt hw1).1;have aI:(i:Int)<4:=by omega
  have aH:((i:Int) == -1)=false:=by simp
  clear hw1;simp only [whoI];obtain ⟨gg,Y⟩:∃ gg,gg=w1.heap.size:=⟨_,rfl⟩;obtain ⟨Wg,Z⟩:∃ Wg,Wg=w1.alloc (.cells (madeCells #[.int .i64 0,.int .i64 0] (4*2)) 29):=⟨_,rfl⟩
  have aG:(Instr.makeSlice 30 (.int .i64 4) (.int .i64 4)).run Try.prog w1=.ok (.slice (some ⟨gg,0,none⟩) 4 4) Wg:=by
   obtain ⟨i0,ar,am,al,ak⟩:=info_parts Try.infoPart;have hr:=run_make (P:=Try.prog) w1 30 29 i0 _ Try.underlying30 ar am .i64 .i64 4 4 (by omega) (Int.le_refl _) (by rw [ak];omega) (by omega);rw [al] at hr;rw [Y,Z];exact hr
  have aC:Hid (Wg.rowIs gg 29 (4*2) (cellP zero4 4)):=by
   rw [Hid,Z,Y];refine (rowP_made w1 zero4 4).congr (fun j hj=>?_);unfold cellP;rw [zero4_get]
   split <;> simp
  have a8:Hid (Below W.heap.size W Wg):=by rw [Hid,Z];exact H1.out.alloc H1.out.size _
  have ad:W.heap.size≤gg:=by rw [Y];exact H1.out.size
  clear Z Y;go_upto_region 5 with fail;obtain ⟨y0,y1,y2,y3,y4,y5,y6,y7,y8,y9,O⟩:=(HB.out _ a8.out).1.cells;obtain ⟨v0,v1,v2,v3,v4,v5,v6,v7,v8,v9,R⟩:=(HB.out _ a8.out).2.1.cells;have d:=aC.out;have e0:=d.cell (show i*2<4*2 by omega);have e1:=d.cell (show i*2+1<4*2 by omega);have ax:=d.frozen (i*2);have av:=d.frozen (i*2+1);obtain ⟨W6,a0⟩:∃ W6,W6=(Wg.setCell ⟨gg,i*2,none⟩ (.int .i64 m)).setCell ⟨gg,i*2+1,none⟩ (.int .i64 r):=⟨_,rfl⟩;have aj:Hid (W6.rowIs gg 29 (4*2) (cellP ((zero4).set i (m,r)) 4)):=by rw [Hid,a0];exact rowP_set aq rfl d
  have M:Hid (Below W.heap.size W W6):=by rw [Hid,a0];exact (a8.out.setCell (p:=⟨gg,i*2,none⟩) ad _).setCell (p:=⟨gg,i*2+1,none⟩) ad _
  have N:∀ V:World,(Instr.build 32 #[(0,.int .i64 5),(6,.slice (some ⟨gg,0,none⟩) 4 4)]).run Try.prog V=.ok (.agg #[.int .i64 5,.int .i64 0,.int .i64 0,.int .i64 0,.int .i64 0,.int .i64 0,.int .i64 0,.int .i64 0,.slice (some ⟨gg,0,none⟩) 4 4,.int .i64 0,.int .i64 0]) V:=fun V=>run_build V _ _ _ (by kernel_rfl)
  go_upto_region 6 with fail;rw [← a0];clear e0 e1 ax av d a0 y0 y1 y2 y3 y4 y5 y6 y7 y8 y9 O v0 v1 v2 v3 v4 v5 v6 v7 v8 v9 R;obtain ⟨y0,y1,y2,y3,y4,y5,y6,y7,y8,y9,O⟩:=(HB.out _ M.out).1.cells;obtain ⟨v0,v1,v2,v3,v4,v5,v6,v7,v8,v9,R⟩:=(HB.out _ M.out).2.1.cells;go_wp2_with fail;refine (factWithFact_any (HR.out _ (HF.out _ M.out)) (rowP_rd aj.out (by rw [List.length_set];rfl) (by omega) (Nat.le_refl gg) aj.out.lt) (by have:=M.out.size;omega) (Nat.le_refl _) (factsF_zeroset HL.out ay.out az.out).symm).mono ?_;rintro e w7 ⟨⟨c,s,ok,rfl,U,ae⟩,af⟩;have ai:Hid (Below W.heap.size W w7):=M.out.trans (af.mono M.out.size);have X:Hid (OwnPs W6.heap.size w7 s c.inds):=U;have aD:Hid (o=if ok=true then some c else none):=by rw [Hid,HO.out];exact ae
  clear U ae af N y0 y1 y2 y3 y4 y5 y6 y7 y8 y9 O v0 v1 v2 v3 v4 v5 v6 v7 v8 v9 R;obtain ⟨n0,n1,n2,n3,n4,n5,n6,n7,ni,n8,n9⟩:=c;unfold clV;dsimp only
  obtain ⟨sa,sn,sc,rfl⟩:∃ sa sn sc,s=.slice sa sn sc:=by
   rcases X.out with ⟨h,_⟩ | ⟨g,_,h,_⟩
   · exact ⟨_,_,_,h⟩
   exact ⟨_,_,_,h⟩
  have T:=(HB.out _ ai.out).2.2;have an:=setRow_heap _ (w.heap.size+1+1) _ #[.int .i64 n0,.int .i64 n1,.int .i64 n2,.int .i64 n3,.int .i64 n4,.int .i64 n5,.int .i64 n6,.int .i64 n7,.slice sa sn sc,.int .i64 n8,.int .i64 n9] _ _ T;have a9:Hid (Below w.heap.size w _):=below_setRow (g:=w.heap.size+1+1) (cs:=#[.int .i64 n0,.int .i64 n1,.int .i64 n2,.int .i64 n3,.int .i64 n4,.int .i64 n5,.int .i64 n6,.int .i64 n7,.slice sa sn sc,.int .i64 n8,.int .i64 n9]) (HF.out _ ai.out) (by omega);have aE:=M.out.size
  have aA:Hid (OwnPs w.heap.size (w7.setRow (w.heap.size+1+1) #[.int .i64 n0,.int .i64 n1,.int .i64 n2,.int .i64 n3,.int .i64 n4,.int .i64 n5,.int .i64 n6,.int .i64 n7,.slice sa sn sc,.int .i64 n8,.int .i64 n9]) (.slice sa sn sc) ni):=by
   rcases X.out with h | ⟨g,h1,h2,h3,h4⟩
   · exact .inl h
   exact .inr ⟨g,by omega,h2,h3,h4.of_block (setRow_other w7 _ g _ (by omega))⟩
  go_wp2_with (first | (refine wpList_store_row rfl 32 (.tmp 4) (.tmp 24) rfl (w.heap.size+1+1) #[.int .i64 n0,.int .i64 n1,.int .i64 n2,.int .i64 n3,.int .i64 n4,.int .i64 n5,.int .i64 n6,.int .i64 n7,.slice sa sn sc,.int .i64 n8,.int .i64 n9] rfl rfl 32 #[.int .i64 0,.int .i64 0,.int .i64 0,.int .i64 0,.int .i64 0,.int .i64 0,.int .i64 0,.int .i64 0,.slice none 0 0,.int .i64 0,.int .i64 0] T infoCl11 rfl (by simp [Value.oneCell']) ?_) | fail);refine bodyPost_ret (v:=.tuple #[.agg #[.int .i64 n0,.int .i64 n1,.int .i64 n2,.int .i64 n3,.int .i64 n4,.int .i64 n5,.int .i64 n6,.int .i64 n7,.slice sa sn sc,.int .i64 n8,.int .i64 n9],.bool ok]) (results_cell_row2 rfl _ _ (w.heap.size+1+1) 32 #[.int .i64 n0,.int .i64 n1,.int .i64 n2,.int .i64 n3,.int .i64 n4,.int .i64 n5,.int .i64 n6,.int .i64 n7,.slice sa sn sc,.int .i64 n8,.int .i64 n9] _ _ rfl rfl an Try.underlying32 rfl infoCl11) rfl ⟨?_,a9.out⟩;exact ⟨⟨n0,n1,n2,n3,n4,n5,n6,n7,ni,n8,n9⟩,.slice sa sn sc,ok,rfl,aA.out,aD.out⟩
end Go.Proofs.Ytkjmfaohdhiiaaa
