/- Parts joined, a literal taken away, what comes of two parts: contracts. -/
import Derived.Test.YtkjmfaohdhiiaaaNG5
import Derived.Test.YtkjmfaohdhiiaaaNG2
import Derived.Deep.RegionWith
import Derived.Deep.RegionHeld3
namespace Go.Proofs.Ytkjmfaohdhiiaaa
open Go.RowKit
set_option linter.unusedVariables false
theorem l7join_any (p1 p2 q1 q2:Int) (w:World) :
    Calls Try.prog 103 #[.agg #[.int .i64 p1,.int .i64 p2],.agg #[.int .i64 q1,.int .i64 q2]] w fun e w'=>e=.returned (.agg #[.int .i64 (bits .or .i64 p1 q1),.int .i64 (bits .or .i64 p2 q2)])∧Below w.heap.size w w':=by
 go_enter Try.func103, Try.ntmps103;go_wp2;refine bodyPost_ret (v:=.agg #[.int .i64 (bits .or .i64 p1 q1),.int .i64 (bits .or .i64 p2 q2)]) (by simp [results, Try.results103,go_sem]) rfl ⟨rfl,(((Below.refl _ _).alloc (Nat.le_refl _) _).alloc (by simp) _).alloc (by simp;omega) _⟩
theorem joinParts_any (p1 p2 q1 q2:Int) (w:World) :
    Calls Try.prog 119 #[.agg #[.int .i64 p1,.int .i64 p2],.agg #[.int .i64 q1,.int .i64 q2]] w fun e w'=>e=.returned (.agg #[.int .i64 (bits .or .i64 p1 q1),.int .i64 (bits .or .i64 p2 q2)])∧Below w.heap.size w w':=by
 go_enter Try.func119, Try.ntmps119;go_wp2;refine bodyPost_ret (v:=.agg #[.int .i64 (bits .or .i64 p1 q1),.int .i64 (bits .or .i64 p2 q2)]) (by simp [results, Try.results119,go_sem]) rfl ⟨rfl,(((Below.refl _ _).alloc (Nat.le_refl _) _).alloc (by simp) _).alloc (by simp;omega) _⟩
set_option maxRecDepth 100000 in
set_option maxHeartbeats 1000000 in
theorem l7without_any (p n:Int) (l:Nat) (hl:l<24) (no:Bool) (w:World) :
    Calls Try.prog 107 #[.agg #[.int .i64 p,.int .i64 n],.int .i64 (l:Nat),.bool no] w fun e w'=>e=.returned (.agg #[.int .i64 (lessP (p,n) l no).1,.int .i64 (lessP (p,n) l no).2])∧Below w.heap.size w w':=by
 have hw:=two_pow_wrap (Nat.le_of_lt hl);cases no with
 | true =>
  go_enter Try.func107, Try.ntmps107;go_upto_region 2 with fail
  first | go_region | fail
  all_goals
   go_wp2;refine bodyPost_ret (v:=.agg #[.int .i64 p,.int .i64 (bits .andNot .i64 n (2 ^ l))]) (by simp [results, Try.results107,go_sem]) rfl ⟨rfl,?_⟩;exact (((Below.refl _ _).alloc (Nat.le_refl _) _).alloc (by simp) _).drew
 | false =>
  go_enter Try.func107, Try.ntmps107;go_upto_region 3 with fail
  first | go_region | fail
  all_goals
   go_wp2;refine bodyPost_ret (v:=.agg #[.int .i64 (bits .andNot .i64 p (2 ^ l)),.int .i64 n]) (by simp [results, Try.results107,go_sem]) rfl ⟨rfl,?_⟩;exact (((Below.refl _ _).alloc (Nat.le_refl _) _).alloc (by simp) _).drew
theorem l5greatest_int {p n:Int} (h:partB p n=true) (w:World) :
    Calls Try.prog 64 #[.agg #[.int .i64 p,.int .i64 n]] w fun e w'=>e=.returned (litV (grP (p,n)))∧Below w.heap.size w w':=by
 have hE:grP (p,n)=grF p.toNat n.toNat 24:=if_pos h;rw [hE];obtain ⟨⟨h1,h2⟩,h3,h4⟩:=partB_iff.1 h;obtain ⟨a,rfl⟩:=Int.eq_ofNat_of_zero_le h1;obtain ⟨b,rfl⟩:=Int.eq_ofNat_of_zero_le h3;exact l5greatest_any a b (by omega) (by omega) w
theorem BoxP.frz {t:Nat} {W:World} {b:Nat} {p n:Int} (h:BoxP t W b p n) (o:Nat):W.frozen? ⟨b,o,none⟩=false:=by
 unfold BoxP at h;simp [World.frozen?,h]
theorem BoxP.set0 {t:Nat} {W:World} {b:Nat} {p n:Int} (h:BoxP t W b p n) (x:Int):BoxP t (W.setCell ⟨b,0,none⟩ (.int .i64 x)) b x n:=by
 unfold BoxP at h ⊢;simp [World.setCell,Array.getElem?_modify,h]
theorem BoxP.set1 {t:Nat} {W:World} {b:Nat} {p n:Int} (h:BoxP t W b p n) (x:Int):BoxP t (W.setCell ⟨b,1,none⟩ (.int .i64 x)) b p x:=by
 unfold BoxP at h ⊢;simp [World.setCell,Array.getElem?_modify,h]
theorem BoxP.setOther {t:Nat} {W:World} {b:Nat} {p n:Int} (h:BoxP t W b p n) {a:Addr} (ha:b≠a.block) (v:Value):BoxP t (W.setCell a v) b p n:=(Below.heap_setCell _ _ _ _ ha).trans h
theorem BoxP.two {t:Nat} {W:World} {b:Nat} {p n:Int} (h:BoxP t W b p n) (x y:Int):(W.setCell ⟨b,0,none⟩ (.int .i64 x)).cell? ⟨b,0,none⟩=some (.int .i64 x)∧((W.setCell ⟨b,0,none⟩ (.int .i64 x)).setCell ⟨b,1,none⟩ (.int .i64 y)).cell? ⟨b,1,none⟩=some (.int .i64 y):=⟨(h.set0 x).cells.1,((h.set0 x).set1 y).cells.2⟩
def meetR (p q:PT):PT × Bool:=if meetOk p q=true then (meetV p q,true) else ((0,0),false)
def meetVal (p q:PT):Value:=.tuple #[.agg #[.int .i64 (meetR p q).1.1,.int .i64 (meetR p q).1.2],.bool (meetR p q).2]
theorem meetR_no {p q:PT} (h:meetOk p q=false):meetR p q=((0,0),false):=by unfold meetR;rw [h];rfl
theorem meetR_yes {p q:PT} (h:meetOk p q=true):meetR p q=(meetV p q,true):=if_pos h
theorem meetP_eq (p q:PT):meetP p q=if (meetR p q).2=true then some (meetR p q).1 else none:=by
 unfold meetP meetR
 split <;> simp
set_option maxRecDepth 100000 in
set_option maxHeartbeats 4000000 in
theorem l7meet_any {p1 p2 q1 q2:Int} (hp:partB p1 p2=true) (hq:partB q1 q2=true) (w:World) :
    Calls Try.prog 101 #[.agg #[.int .i64 p1,.int .i64 p2],.agg #[.int .i64 q1,.int .i64 q2]] w fun e w'=>e=.returned (meetVal (p1,p2) (q1,q2))∧Below w.heap.size w w':=by
 obtain ⟨W,hW⟩:∃ W,W=((w.alloc (.cells #[.int .i64 p1,.int .i64 p2] 29)).alloc (.cells #[.int .i64 q1,.int .i64 q2] 29)).alloc (.cells #[.int .i64 0,.int .i64 0] 29):=⟨_,rfl⟩;have HW:Hid (W=((w.alloc (.cells #[.int .i64 p1,.int .i64 p2] 29)).alloc (.cells #[.int .i64 q1,.int .i64 q2] 29)).alloc (.cells #[.int .i64 0,.int .i64 0] 29)):=hW;have N:Below w.heap.size w W:=by rw [hW];exact (((Below.refl _ _).alloc (Nat.le_refl _) _).alloc (by simp) _).alloc (by simp;omega) _
 have Y:W.heap.size=w.heap.size+3:=by rw [hW];simp
 have x1:BoxP 29 W w.heap.size p1 p2:=by
  rw [hW];exact ((BoxP.new 29 w p1 p2).below ((Below.refl _ _).alloc (Nat.le_refl _) _) (by simp)).below ((Below.refl _ _).alloc (Nat.le_refl _) _) (by simp;omega)
 have x2:BoxP 29 W (w.heap.size+1) q1 q2:=by
  rw [hW];have:=BoxP.new 29 (w.alloc (.cells #[.int .i64 p1,.int .i64 p2] 29)) q1 q2;rw [show (w.alloc (.cells #[.int .i64 p1,.int .i64 p2] 29)).heap.size=w.heap.size+1 from by simp] at this;exact this.below ((Below.refl _ _).alloc (Nat.le_refl _) _) (by simp)
 have x3:BoxP 29 W (w.heap.size+1+1) 0 0:=by
  rw [hW];have:=BoxP.new 29 ((w.alloc (.cells #[.int .i64 p1,.int .i64 p2] 29)).alloc (.cells #[.int .i64 q1,.int .i64 q2] 29)) 0 0;rw [show ((w.alloc (.cells #[.int .i64 p1,.int .i64 p2] 29)).alloc (.cells #[.int .i64 q1,.int .i64 q2] 29)).heap.size=w.heap.size+1+1 from by simp] at this;exact this
 have HB:Hid (∀ V,Below W.heap.size W V→BoxP 29 V w.heap.size p1 p2∧BoxP 29 V (w.heap.size+1) q1 q2∧BoxP 29 V (w.heap.size+1+1) 0 0):=fun V hV=>⟨x1.below hV (by omega),x2.below hV (by omega),x3.below hV (by omega)⟩
 have HF:Hid (∀ V,Below W.heap.size W V→Below w.heap.size w V):=fun V hV=>N.trans (hV.mono (by omega))
 have G:∀ V:World,(Instr.build 29 #[]).run Try.prog V=.ok (.agg #[.int .i64 0,.int .i64 0]) V:=fun V=>run_build V _ _ _ (by kernel_rfl)
 have H0:Hid (Below W.heap.size W W):=Below.refl _ _;obtain ⟨z0,z1⟩:=x1.cells;obtain ⟨z2,z3⟩:=x2.cells;obtain ⟨z4,z5⟩:=x3.cells;have f4:=x3.frz 0;have f5:=x3.frz 1;clear hW N x1 x2 x3;go_enter Try.func101, Try.ntmps101;go_upto_region 1 with fail;rw [← HW.out];go_wp2_with fail;refine (l5greatest_int hp W).mono ?_;rintro e w1 ⟨rfl,M⟩;have H1:Hid (Below W.heap.size W w1):=M;obtain ⟨i1,m,u,D⟩:∃ i no ok,grP (p1,p2)=(i,no,ok):=⟨_,_,_,rfl⟩;have G1:Hid (grP (p1,p2)=(i1,m,u)):=D;rw [D];dsimp only [litV];clear M D z0 z1 z2 z3 z4 z5 f4 f5;obtain ⟨c1,c2,c3⟩:=HB.out _ H1.out;obtain ⟨z0,z1⟩:=c1.cells;obtain ⟨z2,z3⟩:=c2.cells;obtain ⟨z4,z5⟩:=c3.cells;have f4:=c3.frz 0;have f5:=c3.frz 1;clear c1 c2 c3;go_wp2_with fail;refine (l5greatest_int hq w1).mono ?_;rintro e w2 ⟨rfl,L⟩;have H2:Hid (Below W.heap.size W w2):=H1.out.trans (L.mono H1.out.size);obtain ⟨i2,d,s,z⟩:∃ i no ok,grP (q1,q2)=(i,no,ok):=⟨_,_,_,rfl⟩;have G2:Hid (grP (q1,q2)=(i2,d,s)):=z;rw [z];dsimp only [litV];clear L z z0 z1 z2 z3 z4 z5 f4 f5;obtain ⟨c1,c2,c3⟩:=HB.out _ H2.out;obtain ⟨z0,z1⟩:=c1.cells;obtain ⟨z2,z3⟩:=c2.cells;obtain ⟨z4,z5⟩:=c3.cells;have f4:=c3.frz 0;have f5:=c3.frz 1;clear c1 c2 c3;have HM:Hid (meetOk (p1,p2) (q1,q2)=(u && (s && (decide (i1=i2) && (m != d))))):=by rw [Hid,meetOk,G1.out,G2.out]
 have HV:Hid (meetV (p1,p2) (q1,q2)=joinP (lessP (p1,p2) i1.toNat m) (lessP (q1,q2) i2.toNat d)):=by rw [Hid,meetV,G1.out,G2.out]
 cases u with
 | false =>
  have HE:Hid (meetR (p1,p2) (q1,q2)=((0,0),false)):=meetR_no (by rw [HM.out];rfl);obtain ⟨s0,s1⟩:=(HB.out _ H2.out).2.2.two 0 0;go_wp2_with fail;refine bodyPost_ret (v:=.tuple #[.agg #[.int .i64 0,.int .i64 0],.bool false]) (by simp [results, Try.results101,go_sem,s0,s1]) rfl ⟨by unfold meetVal;rw [HE.out],?_⟩;exact ((HF.out _ H2.out).setCell (by show w.heap.size≤w.heap.size+1+1;omega) _).setCell (by show w.heap.size≤w.heap.size+1+1;omega) _
 | true =>
 cases s with
 | false =>
  have HE:Hid (meetR (p1,p2) (q1,q2)=((0,0),false)):=meetR_no (by rw [HM.out];rfl);obtain ⟨s0,s1⟩:=(HB.out _ H2.out).2.2.two 0 0;go_wp2_with fail;refine bodyPost_ret (v:=.tuple #[.agg #[.int .i64 0,.int .i64 0],.bool false]) (by simp [results, Try.results101,go_sem,s0,s1]) rfl ⟨by unfold meetVal;rw [HE.out],?_⟩;exact ((HF.out _ H2.out).setCell (by show w.heap.size≤w.heap.size+1+1;omega) _).setCell (by show w.heap.size≤w.heap.size+1+1;omega) _
 | true =>
 by_cases hi:i1=i2
 · obtain ⟨l,hl⟩:∃ l:Nat,i1=(l:Int)∧l<24:=by
    have:=grP_lt (p:=(p1,p2)) (by rw [G1.out]);rw [G1.out] at this;exact ⟨i1.toNat,by simp only at this;omega,by simp only at this;omega⟩
   obtain ⟨rfl,r⟩:=hl;subst hi;by_cases hn:m=d
   · subst hn;have HE:Hid (meetR (p1,p2) (q1,q2)=((0,0),false)):=meetR_no (by rw [HM.out];simp);obtain ⟨s0,s1⟩:=(HB.out _ H2.out).2.2.two 0 0;go_wp2_with fail;refine bodyPost_ret (v:=.tuple #[.agg #[.int .i64 0,.int .i64 0],.bool false]) (by simp [results, Try.results101,go_sem,s0,s1]) rfl ⟨by unfold meetVal;rw [HE.out],?_⟩;exact ((HF.out _ H2.out).setCell (by show w.heap.size≤w.heap.size+1+1;omega) _).setCell (by show w.heap.size≤w.heap.size+1+1;omega) _
   have HE:Hid (meetR (p1,p2) (q1,q2)=(meetV (p1,p2) (q1,q2),true)):=meetR_yes (by rw [HM.out];simp [hn]);have Z:(m == d)=false:=by simpa using hn
   obtain ⟨⟨a1,a2⟩,hA⟩:∃ A,A=lessP (p1,p2) l m:=⟨_,rfl⟩;obtain ⟨⟨b1,b2⟩,E⟩:∃ A,A=lessP (q1,q2) l d:=⟨_,rfl⟩;have X:Hid (∀ V,Calls Try.prog 107 #[.agg #[.int .i64 p1,.int .i64 p2],.int .i64 (l:Nat),.bool m] V fun e w'=>e=.returned (.agg #[.int .i64 a1,.int .i64 a2])∧Below V.heap.size V w'):=fun V=>by have:=l7without_any p1 p2 l r m V;rw [← hA] at this;exact this
   have U:Hid (∀ V,Calls Try.prog 107 #[.agg #[.int .i64 q1,.int .i64 q2],.int .i64 (l:Nat),.bool d] V fun e w'=>e=.returned (.agg #[.int .i64 b1,.int .i64 b2])∧Below V.heap.size V w'):=fun V=>by have:=l7without_any q1 q2 l r d V;rw [← E] at this;exact this
   have R:Hid (meetV (p1,p2) (q1,q2)=(bits .or .i64 a1 b1,bits .or .i64 a2 b2)):=by rw [Hid,HV.out,Int.toNat_natCast,← hA,← E];rfl
   have HC:Hid (∀ V,Below W.heap.size W V→V.cell? ⟨w.heap.size,0,none⟩=some (.int .i64 p1)∧V.cell? ⟨w.heap.size,1,none⟩=some (.int .i64 p2)∧V.cell? ⟨w.heap.size+1,0,none⟩=some (.int .i64 q1)∧V.cell? ⟨w.heap.size+1,1,none⟩=some (.int .i64 q2)):=fun V hV=>⟨(HB.out V hV).1.cells.1,(HB.out V hV).1.cells.2,(HB.out V hV).2.1.cells.1,(HB.out V hV).2.1.cells.2⟩
   have F:Hid (Below W.heap.size W w2.drew):=H2.out.drew;clear hA E HV;go_upto_region 5 with fail
   go_region_held3 (fun V=>V.cell? ⟨w.heap.size,0,none⟩=some (.int .i64 p1)∧V.cell? ⟨w.heap.size,1,none⟩=some (.int .i64 p2)∧V.cell? ⟨w.heap.size+1,0,none⟩=some (.int .i64 q1)∧V.cell? ⟨w.heap.size+1,1,none⟩=some (.int .i64 q2)) (first | with_reducible exact T.out | with_reducible exact HC.out _ H5.out | with_reducible exact HC.out _ H4.out | with_reducible exact HC.out _ H3.out | with_reducible exact HC.out _ F.out) (first
    | (go_at_call_of 107 p1;refine (X.out _).mono ?_;rintro e w3 ⟨rfl,J⟩;have H3:Hid (Below W.heap.size W w3):=F.out.trans (J.mono F.out.size);clear J)
    | (go_at_call_of 107 q1;refine (U.out _).mono ?_;rintro e w4 ⟨rfl,I⟩;have H4:Hid (Below W.heap.size W w4):=H3.out.trans (I.mono H3.out.size);clear I)
    | (go_at_call 103;refine (l7join_any a1 a2 b1 b2 _).mono ?_;rintro e w5 ⟨rfl,H⟩;have H5:Hid (Below W.heap.size W w5):=H4.out.trans (H.mono H4.out.size);obtain ⟨g4,g5⟩:=(HB.out _ H5.out).2.2.cells;have k4:=(HB.out _ H5.out).2.2.frz 0;have k5:=(HB.out _ H5.out).2.2.frz 1;obtain ⟨s0,s1⟩:=(HB.out _ H5.out).2.2.two (bits .or .i64 a1 b1) (bits .or .i64 a2 b2);have T:Hid (((w5.setCell ⟨w.heap.size+1+1,0,none⟩ (.int .i64 (bits .or .i64 a1 b1))).setCell ⟨w.heap.size+1+1,1,none⟩ (.int .i64 (bits .or .i64 a2 b2))).cell? ⟨w.heap.size,0,none⟩=some (.int .i64 p1)∧((w5.setCell ⟨w.heap.size+1+1,0,none⟩ (.int .i64 (bits .or .i64 a1 b1))).setCell ⟨w.heap.size+1+1,1,none⟩ (.int .i64 (bits .or .i64 a2 b2))).cell? ⟨w.heap.size,1,none⟩=some (.int .i64 p2)∧((w5.setCell ⟨w.heap.size+1+1,0,none⟩ (.int .i64 (bits .or .i64 a1 b1))).setCell ⟨w.heap.size+1+1,1,none⟩ (.int .i64 (bits .or .i64 a2 b2))).cell? ⟨w.heap.size+1,0,none⟩=some (.int .i64 q1)∧((w5.setCell ⟨w.heap.size+1+1,0,none⟩ (.int .i64 (bits .or .i64 a1 b1))).setCell ⟨w.heap.size+1+1,1,none⟩ (.int .i64 (bits .or .i64 a2 b2))).cell? ⟨w.heap.size+1,1,none⟩=some (.int .i64 q2)):=(by have y1:=(((HB.out _ H5.out).1.setOther (a:=⟨w.heap.size+1+1,0,none⟩) (by show w.heap.size≠w.heap.size+1+1;omega) (.int .i64 (bits .or .i64 a1 b1))).setOther (a:=⟨w.heap.size+1+1,1,none⟩) (by show w.heap.size≠w.heap.size+1+1;omega) (.int .i64 (bits .or .i64 a2 b2))).cells;have y2:=(((HB.out _ H5.out).2.1.setOther (a:=⟨w.heap.size+1+1,0,none⟩) (by show w.heap.size+1≠w.heap.size+1+1;omega) (.int .i64 (bits .or .i64 a1 b1))).setOther (a:=⟨w.heap.size+1+1,1,none⟩) (by show w.heap.size+1≠w.heap.size+1+1;omega) (.int .i64 (bits .or .i64 a2 b2))).cells;exact ⟨y1.1,y1.2,y2.1,y2.2⟩);clear H))
   all_goals
    go_wp2_with fail;refine bodyPost_ret (v:=.tuple #[.agg #[.int .i64 (bits .or .i64 a1 b1),.int .i64 (bits .or .i64 a2 b2)],.bool true]) (by simp [results, Try.results101,go_sem,s0,s1]) rfl ⟨by unfold meetVal;rw [HE.out,R.out],?_⟩;exact ((HF.out _ H5.out).setCell (by show w.heap.size≤w.heap.size+1+1;omega) _).setCell (by show w.heap.size≤w.heap.size+1+1;omega) _
 have O:decide (i1=i2)=false:=decide_eq_false hi;have HE:Hid (meetR (p1,p2) (q1,q2)=((0,0),false)):=meetR_no (by rw [HM.out,O];simp);obtain ⟨s0,s1⟩:=(HB.out _ H2.out).2.2.two 0 0;go_wp2_with fail;refine bodyPost_ret (v:=.tuple #[.agg #[.int .i64 0,.int .i64 0],.bool false]) (by simp [results, Try.results101,go_sem,s0,s1]) rfl ⟨by unfold meetVal;rw [HE.out],?_⟩;exact ((HF.out _ H2.out).setCell (by show w.heap.size≤w.heap.size+1+1;omega) _).setCell (by show w.heap.size≤w.heap.size+1+1;omega) _
end Go.Proofs.Ytkjmfaohdhiiaaa
