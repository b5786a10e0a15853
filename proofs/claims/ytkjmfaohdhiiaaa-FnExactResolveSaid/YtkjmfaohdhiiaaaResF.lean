/- What follows of two facts, as the program does it: a contract. -/
import Derived.Test.YtkjmfaohdhiiaaaNG8
import Derived.Test.YtkjmfaohdhiiaaaNG9
import Derived.Test.YtkjmfaohdhiiaaaClLaw
namespace Go.Proofs.Ytkjmfaohdhiiaaa
open Go.RowKit
set_option linter.unusedVariables false
theorem rowP_set {w:World} {g n i:Nat} {xs:List PT} {p q:Int} (hi:i<n) (hl:xs.length=n) (h:w.rowIs g 29 (n*2) (cellP xs n)) :
    ((w.setCell ⟨g,i*2,none⟩ (.int .i64 p)).setCell ⟨g,i*2+1,none⟩ (.int .i64 q)).rowIs g 29 (n*2) (cellP (xs.set i (p,q)) n):=by
 refine ((h.set (i*2) _).set (i*2+1) _).congr fun j hj=>?_
 obtain ⟨k,hd⟩:∃ k,j=k*2∨j=k*2+1:=⟨j / 2,by omega⟩;have hk:k<n:=by omega
 obtain ⟨c0,c1⟩:=cellP_new (xs.set i (p,q)) hk;obtain ⟨d0,d1⟩:=cellP_new xs hk;by_cases hik:k=i
 · subst hik;have e:(xs.set k (p,q)).getD k (0,0)=(p,q):=by simp [List.getD,hl,hk]
   rw [e] at c0 c1;rcases hd with rfl | rfl
   · rw [c0];simp
   rw [c1];simp
 have n0:j≠i*2:=by omega
 have n1:j≠i*2+1:=by omega
 have e:(xs.set i (p,q)).getD k (0,0)=xs.getD k (0,0):=by simp only [List.getD];rw [List.getElem?_set_ne (by omega)]
 rw [e] at c0 c1;simp only [if_neg n0,if_neg n1];rcases hd with rfl | rfl
 · rw [c0,d0]
 rw [c1,d1]
theorem factsF_no1 {xs ys:List PT} (h:whoN xs xs.length=none):factsF xs ys=none:=by unfold factsF;rw [h]
theorem factsF_no2 {xs ys:List PT} {i:Nat} (h:whoN xs xs.length=some i) (h2:whoN ys ys.length≠some i):factsF xs ys=none:=by unfold factsF;rw [h];simp only;rw [if_neg h2]
theorem factsF_yes {xs ys:List PT} {i:Nat} (h:whoN xs xs.length=some i) (h2:whoN ys ys.length=some i):factsF xs ys=(meetP (xs.getD i (0,0)) (ys.getD i (0,0))).map (fun p=>factC ((zipJ xs ys).set i p)):=by unfold factsF;rw [h];simp only;rw [if_pos h2]
theorem zipJ_len (xs ys:List PT):(zipJ xs ys).length=xs.length:=by simp [zipJ]
theorem zipJ_getD {xs ys:List PT} {i:Nat} (h:i<xs.length):(zipJ xs ys).getD i (0,0)=joinP (xs.getD i (0,0)) (ys.getD i (0,0)):=by simp [zipJ,List.getD,h]
set_option maxRecDepth 100000 in
set_option maxHeartbeats 8000000 in
theorem factWithFact_any {k1 f1 r1 u1 N O L M a1 b1 k2 f2 r2 u2 X Y T U a2 b2:Int} {ar aq:Option Addr} {F G:Nat} {w:World} {A s:List PT} {aK ae aJ ad:Nat} (ah:RP aK ae w ar 4 F A) (ag:RP aJ ad w aq 4 G s) (b3:ae≤w.heap.size) (b0:ad≤w.heap.size) {o:Option CL} (ho:o=factsF A s) :
    Calls Try.prog 115 #[.agg #[.int .i64 k1,.int .i64 f1,.int .i64 r1,.int .i64 u1,.int .i64 N,.int .i64 O,.int .i64 L,.int .i64 M,.slice ar 4 F,.int .i64 a1,.int .i64 b1],.agg #[.int .i64 k2,.int .i64 f2,.int .i64 r2,.int .i64 u2,.int .i64 X,.int .i64 Y,.int .i64 T,.int .i64 U,.slice aq 4 G,.int .i64 a2,.int .i64 b2]] w fun e w'=>Foll o w.heap.size w' e∧Below w.heap.size w w':=by
 have HO:Hid (o=factsF A s):=ho;have HL:Hid (A.length=4∧s.length=4):=⟨ah.len,ag.len⟩
 obtain ⟨r,t,rfl,bl⟩:∃ r t,ar=some ⟨r,t,none⟩∧r<ae:=by
  rcases ah.cells with h0 | ⟨b,off,e,_,h2,_⟩
  · omega
  exact ⟨b,off,e,h2⟩
 obtain ⟨u,z,rfl,bk⟩:∃ u z,aq=some ⟨u,z,none⟩∧u<ad:=by
  rcases ag.cells with h0 | ⟨b,off,e,_,h2,_⟩
  · omega
  exact ⟨b,off,e,h2⟩
 have HR:Hid (∀ V,Below w.heap.size w V→RP aK ae V (some ⟨r,t,none⟩) 4 F A∧RP aJ ad V (some ⟨u,z,none⟩) 4 G s):=fun V hV=>⟨ah.below hV b3,ag.below hV b0⟩
 clear ah ag ho;obtain ⟨W,hW⟩:∃ W,W=((w.alloc (.cells #[.int .i64 k1,.int .i64 f1,.int .i64 r1,.int .i64 u1,.int .i64 N,.int .i64 O,.int .i64 L,.int .i64 M,.slice (some ⟨r,t,none⟩) 4 F,.int .i64 a1,.int .i64 b1] 32)).alloc (.cells #[.int .i64 k2,.int .i64 f2,.int .i64 r2,.int .i64 u2,.int .i64 X,.int .i64 Y,.int .i64 T,.int .i64 U,.slice (some ⟨u,z,none⟩) 4 G,.int .i64 a2,.int .i64 b2] 32)).alloc (.cells #[.int .i64 0,.int .i64 0,.int .i64 0,.int .i64 0,.int .i64 0,.int .i64 0,.int .i64 0,.int .i64 0,.slice none 0 0,.int .i64 0,.int .i64 0] 32):=⟨_,rfl⟩;have HW:Hid (W=((w.alloc (.cells #[.int .i64 k1,.int .i64 f1,.int .i64 r1,.int .i64 u1,.int .i64 N,.int .i64 O,.int .i64 L,.int .i64 M,.slice (some ⟨r,t,none⟩) 4 F,.int .i64 a1,.int .i64 b1] 32)).alloc (.cells #[.int .i64 k2,.int .i64 f2,.int .i64 r2,.int .i64 u2,.int .i64 X,.int .i64 Y,.int .i64 T,.int .i64 U,.slice (some ⟨u,z,none⟩) 4 G,.int .i64 a2,.int .i64 b2] 32)).alloc (.cells #[.int .i64 0,.int .i64 0,.int .i64 0,.int .i64 0,.int .i64 0,.int .i64 0,.int .i64 0,.int .i64 0,.slice none 0 0,.int .i64 0,.int .i64 0] 32)):=hW;have aO:Below w.heap.size w W:=by rw [hW];exact (((Below.refl _ _).alloc (Nat.le_refl _) _).alloc (by simp) _).alloc (by simp;omega) _
 have be:W.heap.size=w.heap.size+3:=by rw [hW];simp
 have ao:BoxK 32 W w.heap.size k1 f1 r1 u1 N O L M (.slice (some ⟨r,t,none⟩) 4 F) a1 b1:=by
  rw [hW];exact ((BoxK.new 32 w _ _ _ _ _ _ _ _ _ _ _).below ((Below.refl _ _).alloc (Nat.le_refl _) _) (by simp)).below ((Below.refl _ _).alloc (Nat.le_refl _) _) (by simp;omega)
 have an:BoxK 32 W (w.heap.size+1) k2 f2 r2 u2 X Y T U (.slice (some ⟨u,z,none⟩) 4 G) a2 b2:=by
  rw [hW];have:=BoxK.new 32 (w.alloc (.cells #[.int .i64 k1,.int .i64 f1,.int .i64 r1,.int .i64 u1,.int .i64 N,.int .i64 O,.int .i64 L,.int .i64 M,.slice (some ⟨r,t,none⟩) 4 F,.int .i64 a1,.int .i64 b1] 32)) k2 f2 r2 u2 X Y T U (.slice (some ⟨u,z,none⟩) 4 G) a2 b2;rw [show (w.alloc (.cells #[.int .i64 k1,.int .i64 f1,.int .i64 r1,.int .i64 u1,.int .i64 N,.int .i64 O,.int .i64 L,.int .i64 M,.slice (some ⟨r,t,none⟩) 4 F,.int .i64 a1,.int .i64 b1] 32)).heap.size=w.heap.size+1 from by simp] at this;exact this.below ((Below.refl _ _).alloc (Nat.le_refl _) _) (by simp)
 have aI:BoxK 32 W (w.heap.size+1+1) 0 0 0 0 0 0 0 0 (.slice none 0 0) 0 0:=by
  rw [hW];have:=BoxK.new 32 ((w.alloc (.cells #[.int .i64 k1,.int .i64 f1,.int .i64 r1,.int .i64 u1,.int .i64 N,.int .i64 O,.int .i64 L,.int .i64 M,.slice (some ⟨r,t,none⟩) 4 F,.int .i64 a1,.int .i64 b1] 32)).alloc (.cells #[.int .i64 k2,.int .i64 f2,.int .i64 r2,.int .i64 u2,.int .i64 X,.int .i64 Y,.int .i64 T,.int .i64 U,.slice (some ⟨u,z,none⟩) 4 G,.int .i64 a2,.int .i64 b2] 32)) 0 0 0 0 0 0 0 0 (.slice none 0 0) 0 0;rw [show ((w.alloc (.cells #[.int .i64 k1,.int .i64 f1,.int .i64 r1,.int .i64 u1,.int .i64 N,.int .i64 O,.int .i64 L,.int .i64 M,.slice (some ⟨r,t,none⟩) 4 F,.int .i64 a1,.int .i64 b1] 32)).alloc (.cells #[.int .i64 k2,.int .i64 f2,.int .i64 r2,.int .i64 u2,.int .i64 X,.int .i64 Y,.int .i64 T,.int .i64 U,.slice (some ⟨u,z,none⟩) 4 G,.int .i64 a2,.int .i64 b2] 32)).heap.size=w.heap.size+1+1 from by simp] at this;exact this
 have HB:Hid (∀ V,Below W.heap.size W V→BoxK 32 V w.heap.size k1 f1 r1 u1 N O L M (.slice (some ⟨r,t,none⟩) 4 F) a1 b1∧BoxK 32 V (w.heap.size+1) k2 f2 r2 u2 X Y T U (.slice (some ⟨u,z,none⟩) 4 G) a2 b2∧BoxK 32 V (w.heap.size+1+1) 0 0 0 0 0 0 0 0 (.slice none 0 0) 0 0):=fun V hV=>⟨ao.below hV (by omega),an.below hV (by omega),aI.below hV (by omega)⟩
 have HF:Hid (∀ V,Below W.heap.size W V→Below w.heap.size w V):=fun V hV=>aO.trans (hV.mono (by omega))
 have H0:Hid (Below W.heap.size W W):=Below.refl _ _;obtain ⟨y0,y1,y2,y3,y4,y5,y6,y7,y8,y9,am⟩:=ao.cells;obtain ⟨v0,v1,v2,v3,v4,v5,v6,v7,v8,v9,ap⟩:=an.cells;clear hW aO ao an aI;go_enter Try.func115, Try.ntmps115;go_upto_region 1 with fail;rw [← HW.out];go_wp2_with fail;refine (lastWho_any (HR.out _ (HF.out _ H0.out)).1 (by omega)).mono ?_;rintro e w1 ⟨rfl,aN⟩;have H1:Hid (Below W.heap.size W w1):=aN;clear aN y0 y1 y2 y3 y4 y5 y6 y7 y8 y9 am v0 v1 v2 v3 v4 v5 v6 v7 v8 v9 ap;have al:∀ V:World,(Instr.build 32 #[]).run Try.prog V=.ok (.agg #[.int .i64 0,.int .i64 0,.int .i64 0,.int .i64 0,.int .i64 0,.int .i64 0,.int .i64 0,.int .i64 0,.slice none 0 0,.int .i64 0,.int .i64 0]) V:=fun V=>run_build V _ _ _ (by kernel_rfl)
 cases hw1:whoN A 4 with
 | none =>
  have aE:Hid (o=none):=by rw [Hid,HO.out];exact factsF_no1 (by rw [HL.out.1];exact hw1)
  clear hw1;simp only [whoI];go_upto_region 3 with fail;have E:=(HB.out _ H1.out).2.2;have d:=setRow_heap _ (w.heap.size+1+1) _ #[.int .i64 0,.int .i64 0,.int .i64 0,.int .i64 0,.int .i64 0,.int .i64 0,.int .i64 0,.int .i64 0,.slice none 0 0,.int .i64 0,.int .i64 0] _ _ E;have aa:Hid (Below w.heap.size w _):=below_setRow (g:=w.heap.size+1+1) (cs:=#[.int .i64 0,.int .i64 0,.int .i64 0,.int .i64 0,.int .i64 0,.int .i64 0,.int .i64 0,.int .i64 0,.slice none 0 0,.int .i64 0,.int .i64 0]) (HF.out _ H1.out) (by omega);go_wp2_with (first | (refine wpList_store_row rfl 32 (.tmp 4) (.tmp 23) rfl (w.heap.size+1+1) #[.int .i64 0,.int .i64 0,.int .i64 0,.int .i64 0,.int .i64 0,.int .i64 0,.int .i64 0,.int .i64 0,.slice none 0 0,.int .i64 0,.int .i64 0] rfl rfl 32 #[.int .i64 0,.int .i64 0,.int .i64 0,.int .i64 0,.int .i64 0,.int .i64 0,.int .i64 0,.int .i64 0,.slice none 0 0,.int .i64 0,.int .i64 0] E infoCl11 rfl (by simp [Value.oneCell']) ?_) | fail);refine bodyPost_ret (v:=.tuple #[.agg #[.int .i64 0,.int .i64 0,.int .i64 0,.int .i64 0,.int .i64 0,.int .i64 0,.int .i64 0,.int .i64 0,.slice none 0 0,.int .i64 0,.int .i64 0],.bool false]) (results_cell_row2 rfl _ _ (w.heap.size+1+1) 32 #[.int .i64 0,.int .i64 0,.int .i64 0,.int .i64 0,.int .i64 0,.int .i64 0,.int .i64 0,.int .i64 0,.slice none 0 0,.int .i64 0,.int .i64 0] _ _ rfl rfl d Try.underlying32 rfl infoCl11) rfl ⟨?_,aa.out⟩;exact ⟨⟨0,0,0,0,0,0,0,0,[],0,0⟩,.slice none 0 0,false,rfl,.inl ⟨rfl,rfl⟩,by rw [aE.out];rfl⟩
 | some i =>
  have aP:Hid (whoN A 4=some i):=hw1;have au:i<4:=(whoN_lt hw1).1;have bj:(i:Int)<4:=by omega
  have bi:((i:Int) == -1)=false:=by simp
  clear hw1;simp only [whoI];obtain ⟨y0,y1,y2,y3,y4,y5,y6,y7,y8,y9,am⟩:=(HB.out _ H1.out).1.cells;obtain ⟨v0,v1,v2,v3,v4,v5,v6,v7,v8,v9,ap⟩:=(HB.out _ H1.out).2.1.cells;go_wp2_with fail;refine (lastWho_any (HR.out _ (HF.out _ H1.out)).2 (by have:=H1.out.size;omega)).mono ?_;rintro e w2 ⟨rfl,aM⟩;have H2:Hid (Below W.heap.size W w2):=H1.out.trans (aM.mono H1.out.size);clear aM y0 y1 y2 y3 y4 y5 y6 y7 y8 y9 am v0 v1 v2 v3 v4 v5 v6 v7 v8 v9 ap;by_cases hq:whoN s 4=some i
  · have HQ:Hid (whoN s 4=some i):=hq;rw [hq];clear hq;simp only [whoI];obtain ⟨⟨p1,q1⟩,a3⟩:∃ x,x=A.getD i (0,0):=⟨_,rfl⟩;obtain ⟨⟨p2,q2⟩,a0⟩:∃ x,x=s.getD i (0,0):=⟨_,rfl⟩;have HX:Hid ((p1,q1)=A.getD i (0,0)∧(p2,q2)=s.getD i (0,0)):=⟨a3,a0⟩
    have H:Hid (∀ V,Below W.heap.size W V→V.cell? ⟨w.heap.size,8,none⟩=some (.slice (some ⟨r,t,none⟩) 4 F)∧V.cell? ⟨w.heap.size+1,8,none⟩=some (.slice (some ⟨u,z,none⟩) 4 G)∧V.cell? ⟨r,t+i*2,none⟩=some (.int .i64 p1)∧V.cell? ⟨r,t+i*2+1,none⟩=some (.int .i64 q1)∧V.cell? ⟨u,z+i*2,none⟩=some (.int .i64 p2)∧V.cell? ⟨u,z+i*2+1,none⟩=some (.int .i64 q2)):=by
     intro V hV;obtain ⟨h1,h2⟩:=HR.out V (HF.out V hV);obtain ⟨c0,c1,_⟩:=h1.at au;obtain ⟨d0,d1,_⟩:=h2.at au;rw [← a3] at c0 c1;rw [← a0] at d0 d1;exact ⟨(HB.out V hV).1.cells.2.2.2.2.2.2.2.2.1,(HB.out V hV).2.1.cells.2.2.2.2.2.2.2.2.1,c0,c1,d0,d1⟩
    clear a3 a0;go_upto_region 4 with fail;obtain ⟨z0,z1,z2,z3,z4,z5⟩:=H.out _ H2.out.drew;have ak:Below W.heap.size W w2.drew:=H2.out.drew;have HM:=meetP_eq (p1,q1) (p2,q2);have av:∀ V,Calls Try.prog 117 #[.agg #[.int .i64 p1,.int .i64 q1],.agg #[.int .i64 p2,.int .i64 q2]] V fun e w'=>e=.returned (.tuple #[.agg #[.int .i64 (meetR (p1,q1) (p2,q2)).1.1,.int .i64 (meetR (p1,q1) (p2,q2)).1.2],.bool (meetR (p1,q1) (p2,q2)).2])∧Below V.heap.size V w':=fun V=>comeOf_any p1 q1 p2 q2 V
    obtain ⟨⟨⟨m1,m2⟩,ok⟩,hm⟩:∃ m,m=meetR (p1,q1) (p2,q2):=⟨_,rfl⟩;rw [← hm] at HM;simp only [← hm] at av;have aF:Hid (∀ V,Calls Try.prog 117 #[.agg #[.int .i64 p1,.int .i64 q1],.agg #[.int .i64 p2,.int .i64 q2]] V fun e w'=>e=.returned (.tuple #[.agg #[.int .i64 m1,.int .i64 m2],.bool ok])∧Below V.heap.size V w'):=av;have ba:Hid (meetP (p1,q1) (p2,q2)=if ok=true then some (m1,m2) else none):=HM;clear hm HM av;refine wp_region_held_drew (S:=(fun V=>V.cell? ⟨w.heap.size,8,none⟩=some (.slice (some ⟨r,t,none⟩) 4 F)∧V.cell? ⟨w.heap.size+1,8,none⟩=some (.slice (some ⟨u,z,none⟩) 4 G)∧V.cell? ⟨r,t+i*2,none⟩=some (.int .i64 p1)∧V.cell? ⟨r,t+i*2+1,none⟩=some (.int .i64 q1)∧V.cell? ⟨u,z+i*2,none⟩=some (.int .i64 p2)∧V.cell? ⟨u,z+i*2+1,none⟩=some (.int .i64 q2))) (by kernel_rfl) ?_ (fun hHeld=>?_)
    · (try dsimp only)
      with_reducible exact H.out _ ak
    refine takeR (i:=0) (v:=?_) rfl (by kernel_rfl) ?_ (by assumption) ?_;rotate_left
    · intro w hSw;(try dsimp only at hSw);go_simp;(try with_reducible rfl)
    (try simp only [List.getElem_toArray]);(try simp only [List.getElem_cons_succ]);(try simp only [List.getElem_cons_zero]);(try simp only [Act.put]);(try simp only [List.setIfInBounds_toArray]);(try simp only [List.set_cons_succ]);(try simp only [List.set_cons_zero]);refine takeR (i:=1) (v:=?_) rfl (by kernel_rfl) ?_ (by assumption) ?_;rotate_left
    · intro w hSw;(try dsimp only at hSw);go_simp;(try with_reducible rfl)
    (try simp only [List.getElem_toArray]);(try simp only [List.getElem_cons_succ]);(try simp only [List.getElem_cons_zero]);(try simp only [Act.put]);(try simp only [List.setIfInBounds_toArray]);(try simp only [List.set_cons_succ]);(try simp only [List.set_cons_zero]);refine takeR (i:=2) (v:=?_) rfl (by kernel_rfl) ?_ (by assumption) ?_;rotate_left
    · intro w hSw;(try dsimp only at hSw);go_simp;(try with_reducible rfl)
    (try simp only [List.getElem_toArray]);(try simp only [List.getElem_cons_succ]);(try simp only [List.getElem_cons_zero]);(try simp only [Act.put]);(try simp only [List.setIfInBounds_toArray]);(try simp only [List.set_cons_succ]);(try simp only [List.set_cons_zero]);refine takeR (i:=3) (v:=?_) rfl (by kernel_rfl) ?_ (by assumption) ?_;rotate_left
    · intro w hSw;(try dsimp only at hSw);go_simp;(try with_reducible rfl)
    (try simp only [List.getElem_toArray]);(try simp only [List.getElem_cons_succ]);(try simp only [List.getElem_cons_zero]);(try simp only [Act.put]);(try simp only [List.setIfInBounds_toArray]);(try simp only [List.set_cons_succ]);(try simp only [List.set_cons_zero]);refine takeR (i:=4) (v:=?_) rfl (by kernel_rfl) ?_ (by assumption) ?_;rotate_left
    · intro w hSw;(try dsimp only at hSw);go_simp;(try with_reducible rfl)
    (try simp only [List.getElem_toArray]);(try simp only [List.getElem_cons_succ]);(try simp only [List.getElem_cons_zero]);(try simp only [Act.put]);(try simp only [List.setIfInBounds_toArray]);(try simp only [List.set_cons_succ]);(try simp only [List.set_cons_zero]);refine takeR (i:=5) (v:=?_) rfl (by kernel_rfl) ?_ (by assumption) ?_;rotate_left
    · intro w hSw;(try dsimp only at hSw);go_simp;(try with_reducible rfl)
    (try simp only [List.getElem_toArray]);(try simp only [List.getElem_cons_succ]);(try simp only [List.getElem_cons_zero]);(try simp only [Act.put]);(try simp only [List.setIfInBounds_toArray]);(try simp only [List.set_cons_succ]);(try simp only [List.set_cons_zero]);refine takeR (i:=6) (v:=?_) rfl (by kernel_rfl) ?_ (by assumption) ?_;rotate_left
    · intro w hSw;(try dsimp only at hSw);go_simp;(try with_reducible rfl)
    (try simp only [List.getElem_toArray]);(try simp only [List.getElem_cons_succ]);(try simp only [List.getElem_cons_zero]);(try simp only [Act.put]);(try simp only [List.setIfInBounds_toArray]);(try simp only [List.set_cons_succ]);(try simp only [List.set_cons_zero]);refine takeR (i:=7) (v:=?_) rfl (by kernel_rfl) ?_ (by assumption) ?_;rotate_left
    · intro w hSw;(try dsimp only at hSw);go_simp;(try with_reducible rfl)
    (try simp only [List.getElem_toArray]);(try simp only [List.getElem_cons_succ]);(try simp only [List.getElem_cons_zero]);(try simp only [Act.put]);(try simp only [List.setIfInBounds_toArray]);(try simp only [List.set_cons_succ]);(try simp only [List.set_cons_zero]);refine takeR (i:=8) (v:=?_) rfl (by kernel_rfl) ?_ (by assumption) ?_;rotate_left
    · intro w hSw;(try dsimp only at hSw);go_simp;(try with_reducible rfl)
    (try simp only [List.getElem_toArray]);(try simp only [List.getElem_cons_succ]);(try simp only [List.getElem_cons_zero]);(try simp only [Act.put]);(try simp only [List.setIfInBounds_toArray]);(try simp only [List.set_cons_succ]);(try simp only [List.set_cons_zero]);refine takeR (i:=9) (v:=?_) rfl (by kernel_rfl) ?_ (by assumption) ?_;rotate_left
    · intro w hSw;(try dsimp only at hSw);go_simp;(try with_reducible rfl)
    (try simp only [List.getElem_toArray]);(try simp only [List.getElem_cons_succ]);(try simp only [List.getElem_cons_zero]);(try simp only [Act.put]);(try simp only [List.setIfInBounds_toArray]);(try simp only [List.set_cons_succ]);(try simp only [List.set_cons_zero]);refine wpAnyH_ready (rs:=[10,14]) (by kernel_rfl) (by simp) ?_;refine AllReadyH.cons rfl (fun K hK=>?callF) (AllReadyH.cons rfl (fun K hK=>?allocF) AllReadyH.nil)
    case' callF =>
     go_simp;go_wp2_with (go_at_call 117;refine (aF.out _).mono ?_;rintro e w3 ⟨rfl,hb⟩;have aj:Hid (Below _ _ w3):=hb;clear hb);have H3:Hid (Below W.heap.size W w3):=ak.trans (aj.out.mono ak.size);refine hK.out _ _ ?_ (fun hHeld=>?_)
     · (try dsimp only)
       with_reducible exact H.out _ H3.out
     clear hK K;(try simp only [List.getElem_toArray]);(try simp only [List.getElem_cons_succ]);(try simp only [List.getElem_cons_zero]);(try simp only [Act.put]);(try simp only [List.setIfInBounds_toArray]);(try simp only [List.set_cons_succ]);(try simp only [List.set_cons_zero]);refine takeR (i:=11) (v:=?_) rfl (by kernel_rfl) ?_ (by assumption) ?_;rotate_left
     · intro w hSw;(try dsimp only at hSw);go_simp;(try with_reducible rfl)
     (try simp only [List.getElem_toArray]);(try simp only [List.getElem_cons_succ]);(try simp only [List.getElem_cons_zero]);(try simp only [Act.put]);(try simp only [List.setIfInBounds_toArray]);(try simp only [List.set_cons_succ]);(try simp only [List.set_cons_zero]);refine takeR (i:=12) (v:=?_) rfl (by kernel_rfl) ?_ (by assumption) ?_;rotate_left
     · intro w hSw;(try dsimp only at hSw);go_simp;(try with_reducible rfl)
     (try simp only [List.getElem_toArray]);(try simp only [List.getElem_cons_succ]);(try simp only [List.getElem_cons_zero]);(try simp only [Act.put]);(try simp only [List.setIfInBounds_toArray]);(try simp only [List.set_cons_succ]);(try simp only [List.set_cons_zero]);refine takeR (i:=13) (v:=?_) rfl (by kernel_rfl) ?_ (by assumption) ?_;rotate_left
     · intro w hSw;(try dsimp only at hSw);go_simp;(try with_reducible rfl)
     (try simp only [List.getElem_toArray]);(try simp only [List.getElem_cons_succ]);(try simp only [List.getElem_cons_zero]);(try simp only [Act.put]);(try simp only [List.setIfInBounds_toArray]);(try simp only [List.set_cons_succ]);(try simp only [List.set_cons_zero]);obtain ⟨bx,E⟩:∃ bx,bx=w3.heap.size:=⟨_,rfl⟩;obtain ⟨Wb,a4⟩:∃ Wb,Wb=w3.alloc (.cells #[.int .i64 0,.int .i64 0] 29):=⟨_,rfl⟩;have Z:Hid (Below W.heap.size W Wb):=by rw [Hid,a4];exact H3.out.alloc H3.out.size _
     have I:Hid (BoxP 29 Wb bx 0 0):=by rw [Hid,a4,E];exact BoxP.new _ w3 _ _
     have a6:W.heap.size≤bx:=by rw [E];exact H3.out.size
     refine wpAnyH_ready (rs:=[14]) (by kernel_rfl) (by simp) ?_;refine AllReadyH.cons rfl (fun K hK=>?_) AllReadyH.nil;go_simp;rw [← a4,← E];refine hK.out _ _ ?_ (fun hHeld=>?_)
     · (try dsimp only)
       with_reducible exact H.out _ Z.out
     clear hK K a4 E;(try simp only [List.getElem_toArray]);(try simp only [List.getElem_cons_succ]);(try simp only [List.getElem_cons_zero]);(try simp only [Act.put]);(try simp only [List.setIfInBounds_toArray]);(try simp only [List.set_cons_succ]);(try simp only [List.set_cons_zero]);obtain ⟨d0,d1⟩:=I.out.cells;have ay:=I.out.frz 0;have ax:=I.out.frz 1;obtain ⟨W4,R⟩:∃ W4,W4=(Wb.setCell ⟨bx,0,none⟩ (.int .i64 m1)).setCell ⟨bx,1,none⟩ (.int .i64 m2):=⟨_,rfl⟩;have H4:Hid (Below W.heap.size W W4):=by rw [Hid,R];exact (Z.out.setCell (p:=⟨bx,0,none⟩) a6 _).setCell (p:=⟨bx,1,none⟩) a6 _
     have ai:Hid (BoxP 29 W4 bx m1 m2):=by rw [Hid,R];exact (I.out.set0 m1).set1 m2
     refine wpAnyH_ready (rs:=[15]) (by kernel_rfl) (by simp) ?_;refine AllReadyH.cons rfl (fun K hK=>?_) AllReadyH.nil;go_simp;rw [← R];refine hK.out _ _ ?_ (fun hHeld=>?_)
     · (try dsimp only)
       with_reducible exact H.out _ H4.out
     clear hK K R d0 d1 ay ax I Z;(try simp only [List.getElem_toArray]);(try simp only [List.getElem_cons_succ]);(try simp only [List.getElem_cons_zero]);(try simp only [Act.put]);(try simp only [List.setIfInBounds_toArray]);(try simp only [List.set_cons_succ]);(try simp only [List.set_cons_zero]);refine takeR (i:=16) (v:=?_) rfl (by kernel_rfl) ?_ (by assumption) ?_;rotate_left
     · intro w hSw;(try dsimp only at hSw);go_simp;(try with_reducible rfl)
     (try simp only [List.getElem_toArray]);(try simp only [List.getElem_cons_succ]);(try simp only [List.getElem_cons_zero]);(try simp only [Act.put]);(try simp only [List.setIfInBounds_toArray]);(try simp only [List.set_cons_succ]);(try simp only [List.set_cons_zero]);refine wpAnyH_done (by kernel_rfl) ?_ _
    case' allocF =>
     go_simp;obtain ⟨bx,E⟩:∃ bx,bx=w2.heap.size:=⟨_,rfl⟩;obtain ⟨Wq,a7⟩:∃ Wq,Wq=(w2.alloc (.cells #[.int .i64 0,.int .i64 0] 29)).drew:=⟨_,rfl⟩;have aB:Hid (Below W.heap.size W Wq):=by rw [Hid,a7];exact (H2.out.alloc H2.out.size _).drew
     have b8:Hid (BoxP 29 Wq bx 0 0):=by rw [Hid,a7,E];exact BoxP.new _ w2 _ _
     have a6:W.heap.size≤bx:=by rw [E];exact H2.out.size
     have b5:bx<Wq.heap.size:=by rw [a7,E];show w2.heap.size<(w2.alloc (.cells #[.int .i64 0,.int .i64 0] 29)).heap.size;simp
     try rw [← E]
     rw [← a7];refine hK.out _ _ ?_ (fun hHeld=>?_)
     · (try dsimp only)
       with_reducible exact H.out _ aB.out
     clear hK K a7 E;(try simp only [List.getElem_toArray]);(try simp only [List.getElem_cons_succ]);(try simp only [List.getElem_cons_zero]);(try simp only [Act.put]);(try simp only [List.setIfInBounds_toArray]);(try simp only [List.set_cons_succ]);(try simp only [List.set_cons_zero]);refine wpAnyH_ready (rs:=[10]) (by kernel_rfl) (by simp) ?_;refine AllReadyH.cons rfl (fun K hK=>?_) AllReadyH.nil;go_simp;go_wp2_with (go_at_call 117;refine (aF.out _).mono ?_;rintro e w3 ⟨rfl,hb⟩;have aj:Hid (Below _ _ w3):=hb;clear hb);have Z:Hid (Below W.heap.size W w3):=aB.out.trans (aj.out.mono aB.out.size);have I:Hid (BoxP 29 w3 bx 0 0):=b8.out.below aj.out b5;refine hK.out _ _ ?_ (fun hHeld=>?_)
     · (try dsimp only)
       with_reducible exact H.out _ Z.out
     clear hK K;(try simp only [List.getElem_toArray]);(try simp only [List.getElem_cons_succ]);(try simp only [List.getElem_cons_zero]);(try simp only [Act.put]);(try simp only [List.setIfInBounds_toArray]);(try simp only [List.set_cons_succ]);(try simp only [List.set_cons_zero]);refine takeR (i:=11) (v:=?_) rfl (by kernel_rfl) ?_ (by assumption) ?_;rotate_left
     · intro w hSw;(try dsimp only at hSw);go_simp;(try with_reducible rfl)
     (try simp only [List.getElem_toArray]);(try simp only [List.getElem_cons_succ]);(try simp only [List.getElem_cons_zero]);(try simp only [Act.put]);(try simp only [List.setIfInBounds_toArray]);(try simp only [List.set_cons_succ]);(try simp only [List.set_cons_zero]);refine takeR (i:=12) (v:=?_) rfl (by kernel_rfl) ?_ (by assumption) ?_;rotate_left
     · intro w hSw;(try dsimp only at hSw);go_simp;(try with_reducible rfl)
     (try simp only [List.getElem_toArray]);(try simp only [List.getElem_cons_succ]);(try simp only [List.getElem_cons_zero]);(try simp only [Act.put]);(try simp only [List.setIfInBounds_toArray]);(try simp only [List.set_cons_succ]);(try simp only [List.set_cons_zero]);refine takeR (i:=13) (v:=?_) rfl (by kernel_rfl) ?_ (by assumption) ?_;rotate_left
     · intro w hSw;(try dsimp only at hSw);go_simp;(try with_reducible rfl)
     (try simp only [List.getElem_toArray]);(try simp only [List.getElem_cons_succ]);(try simp only [List.getElem_cons_zero]);(try simp only [Act.put]);(try simp only [List.setIfInBounds_toArray]);(try simp only [List.set_cons_succ]);(try simp only [List.set_cons_zero]);obtain ⟨Wb,a4⟩:∃ Wb,Wb=w3:=⟨_,rfl⟩;rw [← a4] at Z I hHeld ⊢;clear a4;obtain ⟨d0,d1⟩:=I.out.cells;have ay:=I.out.frz 0;have ax:=I.out.frz 1;obtain ⟨W4,R⟩:∃ W4,W4=(Wb.setCell ⟨bx,0,none⟩ (.int .i64 m1)).setCell ⟨bx,1,none⟩ (.int .i64 m2):=⟨_,rfl⟩;have H4:Hid (Below W.heap.size W W4):=by rw [Hid,R];exact (Z.out.setCell (p:=⟨bx,0,none⟩) a6 _).setCell (p:=⟨bx,1,none⟩) a6 _
     have ai:Hid (BoxP 29 W4 bx m1 m2):=by rw [Hid,R];exact (I.out.set0 m1).set1 m2
     refine wpAnyH_ready (rs:=[15]) (by kernel_rfl) (by simp) ?_;refine AllReadyH.cons rfl (fun K hK=>?_) AllReadyH.nil;go_simp;rw [← R];refine hK.out _ _ ?_ (fun hHeld=>?_)
     · (try dsimp only)
       with_reducible exact H.out _ H4.out
     clear hK K R d0 d1 ay ax I Z;(try simp only [List.getElem_toArray]);(try simp only [List.getElem_cons_succ]);(try simp only [List.getElem_cons_zero]);(try simp only [Act.put]);(try simp only [List.setIfInBounds_toArray]);(try simp only [List.set_cons_succ]);(try simp only [List.set_cons_zero]);refine takeR (i:=16) (v:=?_) rfl (by kernel_rfl) ?_ (by assumption) ?_;rotate_left
     · intro w hSw;(try dsimp only at hSw);go_simp;(try with_reducible rfl)
     (try simp only [List.getElem_toArray]);(try simp only [List.getElem_cons_succ]);(try simp only [List.getElem_cons_zero]);(try simp only [Act.put]);(try simp only [List.setIfInBounds_toArray]);(try simp only [List.set_cons_succ]);(try simp only [List.set_cons_zero]);refine wpAnyH_done (by kernel_rfl) ?_ _
    all_goals
     clear hHeld H ak aF;obtain ⟨gg,af⟩:∃ gg,gg=W4.heap.size:=⟨_,rfl⟩;obtain ⟨Wg,a8⟩:∃ Wg,Wg=W4.alloc (.cells (madeCells #[.int .i64 0,.int .i64 0] (4*2)) 29):=⟨_,rfl⟩
     have bg:(Instr.makeSlice 30 (.int .i64 4) (.int .i64 4)).run Try.prog W4=.ok (.slice (some ⟨gg,0,none⟩) 4 4) Wg:=by
      obtain ⟨i0,aZ,aW,aV,aU⟩:=info_parts Try.infoPart;have hr:=run_make (P:=Try.prog) W4 30 29 i0 _ Try.underlying30 aZ aW .i64 .i64 4 4 (by omega) (Int.le_refl _) (by rw [aU];omega) (by omega);rw [aV] at hr;rw [af,a8];exact hr
     have bb:Hid (Wg.rowIs gg 29 (4*2) (cellP (zipJ A s) 0)):=by rw [Hid,a8,af];exact rowP_made W4 (zipJ A s) 4
     have b6:Hid (Below W.heap.size W Wg):=by rw [Hid,a8];exact H4.out.alloc H4.out.size _
     have bm:bx<gg:=by rw [af];exact ai.out.lt
     have b9:Hid (BoxP 29 Wg bx m1 m2):=by
      have:Below W4.heap.size W4 Wg:=by rw [a8];exact (Below.refl _ _).alloc (Nat.le_refl _) _
      exact ai.out.below this ai.out.lt
     clear a8 af;go_upto_region 7 with fail;go_loopw [41] (fun c wr=>∃ k:Nat,k≤4∧c=.int .i64 k∧wr.rowIs gg 29 (4*2) (cellP (zipJ A s) k)∧Below W.heap.size W wr∧BoxP 29 wr bx m1 m2) (fun c _=>4 - (intOf c).toNat)
     case atStart=>exact ⟨0,Nat.zero_le _,rfl,bb.out,b6.out,b9.out⟩
     case round =>
      obtain ⟨k,hk,rfl,d,ab,aL⟩:=hrel;have aQ:Hid (Below W.heap.size W wr):=ab;have ac:Hid (wr.rowIs gg 29 (4*2) (cellP (zipJ A s) k)):=d;have aS:Hid (BoxP 29 wr bx m1 m2):=aL;have b4:gg<wr.heap.size:=d.lt;clear ab d aL;by_cases hlt:k<4
      · have bh:(k:Int)<4:=by omega
        obtain ⟨⟨u1,v1⟩,a3⟩:∃ x,x=A.getD k (0,0):=⟨_,rfl⟩;obtain ⟨⟨u2,v2⟩,a0⟩:∃ x,x=s.getD k (0,0):=⟨_,rfl⟩
        have HZ:Hid ((zipJ A s).getD k (0,0)=(bits .or .i64 u1 u2,bits .or .i64 v1 v2)):=by
         rw [Hid,zipJ_getD (by rw [HL.out.1];exact hlt),← a3,← a0];rfl
        have H:Hid (∀ V,Below W.heap.size W V→V.cell? ⟨w.heap.size,8,none⟩=some (.slice (some ⟨r,t,none⟩) 4 F)∧V.cell? ⟨w.heap.size+1,8,none⟩=some (.slice (some ⟨u,z,none⟩) 4 G)∧V.cell? ⟨r,t+k*2,none⟩=some (.int .i64 u1)∧V.cell? ⟨r,t+k*2+1,none⟩=some (.int .i64 v1)∧V.cell? ⟨u,z+k*2,none⟩=some (.int .i64 u2)∧V.cell? ⟨u,z+k*2+1,none⟩=some (.int .i64 v2)):=by
         intro V hV;obtain ⟨h1,h2⟩:=HR.out V (HF.out V hV);obtain ⟨c0,c1,_⟩:=h1.at hlt;obtain ⟨d0,d1,_⟩:=h2.at hlt;rw [← a3] at c0 c1;rw [← a0] at d0 d1;exact ⟨(HB.out V hV).1.cells.2.2.2.2.2.2.2.2.1,(HB.out V hV).2.1.cells.2.2.2.2.2.2.2.2.1,c0,c1,d0,d1⟩
        clear a3 a0;go_upto_region 9 with fail;have aC:Below W.heap.size W wr.drew:=aQ.out.drew;refine wp_region_held_drew (S:=(fun V=>V.cell? ⟨w.heap.size,8,none⟩=some (.slice (some ⟨r,t,none⟩) 4 F)∧V.cell? ⟨w.heap.size+1,8,none⟩=some (.slice (some ⟨u,z,none⟩) 4 G)∧V.cell? ⟨r,t+k*2,none⟩=some (.int .i64 u1)∧V.cell? ⟨r,t+k*2+1,none⟩=some (.int .i64 v1)∧V.cell? ⟨u,z+k*2,none⟩=some (.int .i64 u2)∧V.cell? ⟨u,z+k*2+1,none⟩=some (.int .i64 v2))) (by kernel_rfl) ?_ (fun hHeld=>?_)
        · (try dsimp only)
          with_reducible exact H.out _ aC
        refine takeR (i:=0) (v:=?_) rfl (by kernel_rfl) ?_ (by assumption) ?_;rotate_left
        · intro w hSw;(try dsimp only at hSw);go_simp;(try with_reducible rfl)
        (try simp only [List.getElem_toArray]);(try simp only [List.getElem_cons_succ]);(try simp only [List.getElem_cons_zero]);(try simp only [Act.put]);(try simp only [List.setIfInBounds_toArray]);(try simp only [List.set_cons_succ]);(try simp only [List.set_cons_zero]);refine takeR (i:=1) (v:=?_) rfl (by kernel_rfl) ?_ (by assumption) ?_;rotate_left
        · intro w hSw;(try dsimp only at hSw);go_simp;(try with_reducible rfl)
        (try simp only [List.getElem_toArray]);(try simp only [List.getElem_cons_succ]);(try simp only [List.getElem_cons_zero]);(try simp only [Act.put]);(try simp only [List.setIfInBounds_toArray]);(try simp only [List.set_cons_succ]);(try simp only [List.set_cons_zero]);refine takeR (i:=2) (v:=?_) rfl (by kernel_rfl) ?_ (by assumption) ?_;rotate_left
        · intro w hSw;(try dsimp only at hSw);go_simp;(try with_reducible rfl)
        (try simp only [List.getElem_toArray]);(try simp only [List.getElem_cons_succ]);(try simp only [List.getElem_cons_zero]);(try simp only [Act.put]);(try simp only [List.setIfInBounds_toArray]);(try simp only [List.set_cons_succ]);(try simp only [List.set_cons_zero]);refine takeR (i:=3) (v:=?_) rfl (by kernel_rfl) ?_ (by assumption) ?_;rotate_left
        · intro w hSw;(try dsimp only at hSw);go_simp;(try with_reducible rfl)
        (try simp only [List.getElem_toArray]);(try simp only [List.getElem_cons_succ]);(try simp only [List.getElem_cons_zero]);(try simp only [Act.put]);(try simp only [List.setIfInBounds_toArray]);(try simp only [List.set_cons_succ]);(try simp only [List.set_cons_zero]);refine takeR (i:=4) (v:=?_) rfl (by kernel_rfl) ?_ (by assumption) ?_;rotate_left
        · intro w hSw;(try dsimp only at hSw);go_simp;(try with_reducible rfl)
        (try simp only [List.getElem_toArray]);(try simp only [List.getElem_cons_succ]);(try simp only [List.getElem_cons_zero]);(try simp only [Act.put]);(try simp only [List.setIfInBounds_toArray]);(try simp only [List.set_cons_succ]);(try simp only [List.set_cons_zero]);refine takeR (i:=5) (v:=?_) rfl (by kernel_rfl) ?_ (by assumption) ?_;rotate_left
        · intro w hSw;(try dsimp only at hSw);go_simp;(try with_reducible rfl)
        (try simp only [List.getElem_toArray]);(try simp only [List.getElem_cons_succ]);(try simp only [List.getElem_cons_zero]);(try simp only [Act.put]);(try simp only [List.setIfInBounds_toArray]);(try simp only [List.set_cons_succ]);(try simp only [List.set_cons_zero]);refine takeR (i:=6) (v:=?_) rfl (by kernel_rfl) ?_ (by assumption) ?_;rotate_left
        · intro w hSw;(try dsimp only at hSw);go_simp;(try with_reducible rfl)
        (try simp only [List.getElem_toArray]);(try simp only [List.getElem_cons_succ]);(try simp only [List.getElem_cons_zero]);(try simp only [Act.put]);(try simp only [List.setIfInBounds_toArray]);(try simp only [List.set_cons_succ]);(try simp only [List.set_cons_zero]);refine takeR (i:=7) (v:=?_) rfl (by kernel_rfl) ?_ (by assumption) ?_;rotate_left
        · intro w hSw;(try dsimp only at hSw);go_simp;(try with_reducible rfl)
        (try simp only [List.getElem_toArray]);(try simp only [List.getElem_cons_succ]);(try simp only [List.getElem_cons_zero]);(try simp only [Act.put]);(try simp only [List.setIfInBounds_toArray]);(try simp only [List.set_cons_succ]);(try simp only [List.set_cons_zero]);refine takeR (i:=8) (v:=?_) rfl (by kernel_rfl) ?_ (by assumption) ?_;rotate_left
        · intro w hSw;(try dsimp only at hSw);go_simp;(try with_reducible rfl)
        (try simp only [List.getElem_toArray]);(try simp only [List.getElem_cons_succ]);(try simp only [List.getElem_cons_zero]);(try simp only [Act.put]);(try simp only [List.setIfInBounds_toArray]);(try simp only [List.set_cons_succ]);(try simp only [List.set_cons_zero]);refine takeR (i:=9) (v:=?_) rfl (by kernel_rfl) ?_ (by assumption) ?_;rotate_left
        · intro w hSw;(try dsimp only at hSw);go_simp;(try with_reducible rfl)
        (try simp only [List.getElem_toArray]);(try simp only [List.getElem_cons_succ]);(try simp only [List.getElem_cons_zero]);(try simp only [Act.put]);(try simp only [List.setIfInBounds_toArray]);(try simp only [List.set_cons_succ]);(try simp only [List.set_cons_zero]);refine takeR (i:=10) (v:=?_) rfl (by kernel_rfl) ?_ (by assumption) ?_;rotate_left
        · intro w hSw;(try dsimp only at hSw);go_simp;(try with_reducible rfl)
        (try simp only [List.getElem_toArray]);(try simp only [List.getElem_cons_succ]);(try simp only [List.getElem_cons_zero]);(try simp only [Act.put]);(try simp only [List.setIfInBounds_toArray]);(try simp only [List.set_cons_succ]);(try simp only [List.set_cons_zero]);refine takeR (i:=11) (v:=?_) rfl (by kernel_rfl) ?_ (by assumption) ?_;rotate_left
        · intro w hSw;(try dsimp only at hSw);go_simp;(try with_reducible rfl)
        (try simp only [List.getElem_toArray]);(try simp only [List.getElem_cons_succ]);(try simp only [List.getElem_cons_zero]);(try simp only [Act.put]);(try simp only [List.setIfInBounds_toArray]);(try simp only [List.set_cons_succ]);(try simp only [List.set_cons_zero]);refine wpAnyH_ready (rs:=[12]) (by kernel_rfl) (by simp) ?_;refine AllReadyH.cons rfl (fun K hK=>?_) AllReadyH.nil;go_simp;go_wp2_with (go_at_call 119;refine (joinParts_any u1 v1 u2 v2 _).mono ?_;rintro e w5 ⟨rfl,hb⟩;have aG:Hid (Below wr.drew.heap.size wr.drew w5):=hb;clear hb);have aR:Hid (Below W.heap.size W w5):=aC.trans (aG.out.mono aC.size);refine hK.out _ _ ?_ (fun hHeld=>?_)
        · (try dsimp only)
          with_reducible exact H.out _ aR.out
        clear hK K;(try simp only [List.getElem_toArray]);(try simp only [List.getElem_cons_succ]);(try simp only [List.getElem_cons_zero]);(try simp only [Act.put]);(try simp only [List.setIfInBounds_toArray]);(try simp only [List.set_cons_succ]);(try simp only [List.set_cons_zero]);refine takeR (i:=13) (v:=?_) rfl (by kernel_rfl) ?_ (by assumption) ?_;rotate_left
        · intro w hSw;(try dsimp only at hSw);go_simp;(try with_reducible rfl)
        (try simp only [List.getElem_toArray]);(try simp only [List.getElem_cons_succ]);(try simp only [List.getElem_cons_zero]);(try simp only [Act.put]);(try simp only [List.setIfInBounds_toArray]);(try simp only [List.set_cons_succ]);(try simp only [List.set_cons_zero]);have D:w5.rowIs gg 29 (4*2) (cellP (zipJ A s) k):=ac.out.of_block (aG.out.block gg b4);have bd:Hid (BoxP 29 w5 bx m1 m2):=(aG.out.block bx (by show bx<wr.heap.size;omega)).trans aS.out;have e0:=D.cell (show k*2<4*2 by omega);have e1:=D.cell (show k*2+1<4*2 by omega);have aA:=D.frozen (k*2);have az:=D.frozen (k*2+1);obtain ⟨W6,J⟩:∃ W6,W6=(w5.setCell ⟨gg,k*2,none⟩ (.int .i64 (bits .or .i64 u1 u2))).setCell ⟨gg,k*2+1,none⟩ (.int .i64 (bits .or .i64 v1 v2)):=⟨_,rfl⟩;have aD:Hid (W6.rowIs gg 29 (4*2) (cellP (zipJ A s) (k+1))):=by rw [Hid,J];exact rowP_step (by rw [HZ.out]) (by rw [HZ.out]) D
        have a5:W.heap.size≤gg:=by omega
        have a9:Hid (Below W.heap.size W W6):=by rw [Hid,J];exact (aR.out.setCell (p:=⟨gg,k*2,none⟩) a5 _).setCell (p:=⟨gg,k*2+1,none⟩) a5 _
        have bc:Hid (BoxP 29 W6 bx m1 m2):=by rw [Hid,J];exact (bd.out.setOther (a:=⟨gg,k*2,none⟩) (by show bx≠gg;omega) _).setOther (a:=⟨gg,k*2+1,none⟩) (by show bx≠gg;omega) _
        refine wpAnyH_ready (rs:=[14]) (by kernel_rfl) (by simp) ?_;refine AllReadyH.cons rfl (fun K hK=>?_) AllReadyH.nil;go_simp;rw [← J];refine hK.out _ _ ?_ (fun hHeld=>?_)
        · (try dsimp only)
          with_reducible exact H.out _ a9.out
        clear hK K J e0 e1 aA az D;(try simp only [List.getElem_toArray]);(try simp only [List.getElem_cons_succ]);(try simp only [List.getElem_cons_zero]);(try simp only [Act.put]);(try simp only [List.setIfInBounds_toArray]);(try simp only [List.set_cons_succ]);(try simp only [List.set_cons_zero]);refine wpAnyH_done (by kernel_rfl) ?_ _;clear hHeld;go_wp2_with fail;go_roundw
        case rel=>exact ⟨k+1,by omega,by go_num,aD.out,a9.out,bc.out⟩
        case measure=>simp [intOf];omega
      obtain rfl:k=4:=by omega
      have d:=ac.out;have e0:=d.cell (show i*2<4*2 by omega);have e1:=d.cell (show i*2+1<4*2 by omega);have aA:=d.frozen (i*2);have az:=d.frozen (i*2+1);obtain ⟨m0,aT⟩:=aS.out.cells;obtain ⟨W6,J⟩:∃ W6,W6=(wr.setCell ⟨gg,i*2,none⟩ (.int .i64 m1)).setCell ⟨gg,i*2+1,none⟩ (.int .i64 m2):=⟨_,rfl⟩;have aD:Hid (W6.rowIs gg 29 (4*2) (cellP ((zipJ A s).set i (m1,m2)) 4)):=by rw [Hid,J];exact rowP_set au (by rw [zipJ_len];exact HL.out.1) d
      have a5:W.heap.size≤gg:=by omega
      have a9:Hid (Below W.heap.size W W6):=by rw [Hid,J];exact (aQ.out.setCell (p:=⟨gg,i*2,none⟩) a5 _).setCell (p:=⟨gg,i*2+1,none⟩) a5 _
      have aH:∀ V:World,(Instr.build 32 #[(0,.int .i64 5),(6,.slice (some ⟨gg,0,none⟩) 4 4)]).run Try.prog V=.ok (.agg #[.int .i64 5,.int .i64 0,.int .i64 0,.int .i64 0,.int .i64 0,.int .i64 0,.int .i64 0,.int .i64 0,.slice (some ⟨gg,0,none⟩) 4 4,.int .i64 0,.int .i64 0]) V:=fun V=>run_build V _ _ _ (by kernel_rfl)
      go_upto_region 12 with fail;rw [← J];clear e0 e1 aA az m0 aT d J;have E:=(HB.out _ a9.out).2.2;have aY:=setRow_heap _ (w.heap.size+1+1) _ #[.int .i64 5,.int .i64 0,.int .i64 0,.int .i64 0,.int .i64 0,.int .i64 0,.int .i64 0,.int .i64 0,.slice (some ⟨gg,0,none⟩) 4 4,.int .i64 0,.int .i64 0] _ _ E;have aa:Hid (Below w.heap.size w _):=below_setRow (g:=w.heap.size+1+1) (cs:=#[.int .i64 5,.int .i64 0,.int .i64 0,.int .i64 0,.int .i64 0,.int .i64 0,.int .i64 0,.int .i64 0,.slice (some ⟨gg,0,none⟩) 4 4,.int .i64 0,.int .i64 0]) (HF.out _ a9.out) (by omega);have b7:Hid ((W6.setRow (w.heap.size+1+1) #[.int .i64 5,.int .i64 0,.int .i64 0,.int .i64 0,.int .i64 0,.int .i64 0,.int .i64 0,.int .i64 0,.slice (some ⟨gg,0,none⟩) 4 4,.int .i64 0,.int .i64 0]).rowIs gg 29 (4*2) (cellP ((zipJ A s).set i (m1,m2)) 4)):=aD.out.of_block (setRow_other W6 _ gg _ (by omega));go_wp2_with (first | (refine wpList_store_row rfl 32 (.tmp 4) (.tmp 64) rfl (w.heap.size+1+1) #[.int .i64 5,.int .i64 0,.int .i64 0,.int .i64 0,.int .i64 0,.int .i64 0,.int .i64 0,.int .i64 0,.slice (some ⟨gg,0,none⟩) 4 4,.int .i64 0,.int .i64 0] rfl rfl 32 #[.int .i64 0,.int .i64 0,.int .i64 0,.int .i64 0,.int .i64 0,.int .i64 0,.int .i64 0,.int .i64 0,.slice none 0 0,.int .i64 0,.int .i64 0] E infoCl11 rfl (by simp [Value.oneCell']) ?_) | fail)
      refine bodyPost_ret (v:=.tuple #[.agg #[.int .i64 5,.int .i64 0,.int .i64 0,.int .i64 0,.int .i64 0,.int .i64 0,.int .i64 0,.int .i64 0,.slice (some ⟨gg,0,none⟩) 4 4,.int .i64 0,.int .i64 0],.bool ok]) (results_cell_row2 rfl _ _ (w.heap.size+1+1) 32 #[.int .i64 5,.int .i64 0,.int .i64 0,.int .i64 0,.int .i64 0,.int .i64 0,.int .i64 0,.int .i64 0,.slice (some ⟨gg,0,none⟩) 4 4,.int .i64 0,.int .i64 0] _ _ rfl rfl aY Try.underlying32 rfl infoCl11) rfl ⟨?_,aa.out⟩;refine ⟨factC ((zipJ A s).set i (m1,m2)),.slice (some ⟨gg,0,none⟩) 4 4,ok,rfl,.inr ⟨gg,by omega,rfl,?_,b7.out⟩,?_⟩
      · show ((zipJ A s).set i (m1,m2)).length=4
        rw [List.length_set,zipJ_len];exact HL.out.1
      rw [HO.out,factsF_yes (by rw [HL.out.1];exact aP.out) (by rw [HL.out.2];exact HQ.out),← HX.out.1,← HX.out.2,ba.out];cases ok <;> rfl
  have aE:Hid (o=none):=by rw [Hid,HO.out];exact factsF_no2 (by rw [HL.out.1];exact aP.out) (by rw [HL.out.2];exact hq)
  have bf:((i:Int) != whoI (whoN s 4))=true:=by
   cases aX:whoN s 4 with
   | none=>simp [whoI]
   | some j=>simp only [whoI,bne_iff_ne,ne_eq];intro e;exact hq (by rw [aX];congr 1;omega)
  clear hq;go_upto_region 3 with fail;have E:=(HB.out _ H2.out).2.2;have d:=setRow_heap _ (w.heap.size+1+1) _ #[.int .i64 0,.int .i64 0,.int .i64 0,.int .i64 0,.int .i64 0,.int .i64 0,.int .i64 0,.int .i64 0,.slice none 0 0,.int .i64 0,.int .i64 0] _ _ E;have aa:Hid (Below w.heap.size w _):=below_setRow (g:=w.heap.size+1+1) (cs:=#[.int .i64 0,.int .i64 0,.int .i64 0,.int .i64 0,.int .i64 0,.int .i64 0,.int .i64 0,.int .i64 0,.slice none 0 0,.int .i64 0,.int .i64 0]) (HF.out _ H2.out) (by omega);go_wp2_with (first | (refine wpList_store_row rfl 32 (.tmp 4) (.tmp 23) rfl (w.heap.size+1+1) #[.int .i64 0,.int .i64 0,.int .i64 0,.int .i64 0,.int .i64 0,.int .i64 0,.int .i64 0,.int .i64 0,.slice none 0 0,.int .i64 0,.int .i64 0] rfl rfl 32 #[.int .i64 0,.int .i64 0,.int .i64 0,.int .i64 0,.int .i64 0,.int .i64 0,.int .i64 0,.int .i64 0,.slice none 0 0,.int .i64 0,.int .i64 0] E infoCl11 rfl (by simp [Value.oneCell']) ?_) | fail);refine bodyPost_ret (v:=.tuple #[.agg #[.int .i64 0,.int .i64 0,.int .i64 0,.int .i64 0,.int .i64 0,.int .i64 0,.int .i64 0,.int .i64 0,.slice none 0 0,.int .i64 0,.int .i64 0],.bool false]) (results_cell_row2 rfl _ _ (w.heap.size+1+1) 32 #[.int .i64 0,.int .i64 0,.int .i64 0,.int .i64 0,.int .i64 0,.int .i64 0,.int .i64 0,.int .i64 0,.slice none 0 0,.int .i64 0,.int .i64 0] _ _ rfl rfl d Try.underlying32 rfl infoCl11) rfl ⟨?_,aa.out⟩;exact ⟨⟨0,0,0,0,0,0,0,0,[],0,0⟩,.slice none 0 0,false,rfl,.inl ⟨rfl,rfl⟩,by rw [aE.out];rfl⟩
end Go.Proofs.Ytkjmfaohdhiiaaa
