/- Which of what is told as clauses may be, as the document's model looks: a contract. -/
import Derived.Test.YtellcgmabimieaaGreatDoorNG17
import Derived.Test.YtellcgmabimieaaGreatDoorConSpec2
import Derived.Test.YtellcgmabimieaaGreatDoorConSubs1
import Derived.Test.YtellcgmabimieaaGreatDoorNG9
import Derived.Deep.RegionHeld3
namespace Go.Proofs.YtellcgmabimieaaGreatDoor
open Go.RowKit Go.Deep
theorem RdC.form4S {lo hi d:Nat} {w:World} {v0 v1 v2 v3:Value} {c:CN} (h:RdC lo hi w d (.agg #[v0,v1,v2,v3]) c):∃ k na nn nc ra rn rc ka kn kc,v0=.int .i64 k∧v1=.slice na nn nc∧v2=.slice ra rn rc∧v3=.slice ka kn kc:=by
 cases d with
 | zero=>exact h.elim
 | succ d =>
  obtain ⟨na,nn,nc,ra,rn,rc,ka,kn,kc,hv,_⟩:=h;simp only [Value.agg.injEq,Array.mk.injEq,List.cons.injEq,and_true] at hv;exact ⟨_,_,_,_,_,_,_,_,_,_,hv.1,hv.2.1,hv.2.2.1,hv.2.2.2⟩
theorem atomAt_wf {l:List CN} {i:Nat} (h:atomAt l i=true):wfC (l.getD i CN.zero)=true:=by
 unfold atomAt at h;rw [Bool.and_eq_true] at h;exact wfC_of_ok h.1
theorem atomAt_no {l:List CN} {i:Nat} (h:conOk (l.getD i CN.zero)=false):atomAt l i=false:=by unfold atomAt;rw [h];rfl
theorem atomAt_yes {l:List CN} {i:Nat} (h:conOk (l.getD i CN.zero)=true) (hs:∀ m,m<i→sameC (l.getD m CN.zero) (l.getD i CN.zero)=false):atomAt l i=true:=by
 unfold atomAt;rw [h,Bool.true_and,List.all_eq_true];intro m hm;rw [hs m (List.mem_range.1 hm)];rfl
theorem atomAt_twice {l:List CN} {i m:Nat} (hm:m<i) (hs:sameC (l.getD m CN.zero) (l.getD i CN.zero)=true):atomAt l i=false:=by
 unfold atomAt;rw [Bool.and_eq_false_iff];refine .inr ?_;rw [List.all_eq_false];exact ⟨m,List.mem_range.2 hm,by rw [hs];simp⟩
theorem atomsB_no {l:List CN} {i:Nat} (hi:i<l.length) (h:atomAt l i=false):atomsB l=false:=by
 unfold atomsB;rw [List.all_eq_false];exact ⟨i,List.mem_range.2 hi,by rw [h];simp⟩
theorem atomsB_yes {l:List CN} {n:Nat} (hl:l.length=n) (h:∀ i,i<n→atomAt l i=true):atomsB l=true:=by
 unfold atomsB;rw [List.all_eq_true];intro i hi;exact h i (by rw [← hl];exact List.mem_range.1 hi)
set_option maxRecDepth 100000 in
set_option maxHeartbeats 8000000 in
theorem specClsOk_any {d:Nat} {aa:Option Addr} {an ac:Nat} {ra:Option Addr} {rn rc:Nat} {wa:Option Addr} {wn wc:Nat} {la:Option Addr} {ln lc:Nat} {s:CS} {w:World} {lo hi:Nat} (h:RdS lo hi w d aa an ac ra rn rc wa wn wc la ln lc s) (ap:hi≤w.heap.size) (aD:bulks s.atoms≤1048576) :
    Calls Tryz.prog 25 #[.agg #[.slice aa an ac,.slice ra rn rc,.slice wa wn wc,.slice la ln lc]] w fun e w'=>e=.returned (.bool (clsB s))∧Below w.heap.size w w':=by
 obtain ⟨W,hW⟩:∃ W,W=w.alloc (.cells #[.slice aa an ac,.slice ra rn rc,.slice wa wn wc,.slice la ln lc] 46):=⟨_,rfl⟩;have HW:Hid (W=w.alloc (.cells #[.slice aa an ac,.slice ra rn rc,.slice wa wn wc,.slice la ln lc] 46)):=hW;have T:Below w.heap.size w W:=by rw [hW];exact (Below.refl _ _).alloc (Nat.le_refl _) _
 have bj:Hid (Below w.heap.size w W):=T;have a3:Blk W w.heap.size 46 (.slice aa an ac) (.slice ra rn rc) (.slice wa wn wc) (.slice la ln lc):=by rw [hW];exact Blk.alloc_new w _ _ _ _ _ _ rfl
 have HS:Hid (∀ V,Below W.heap.size W V→Blk V w.heap.size 46 (.slice aa an ac) (.slice ra rn rc) (.slice wa wn wc) (.slice la ln lc)):=fun V hV=>a3.below hV a3.lt
 have HR:Hid (∀ V,Below W.heap.size W V→RdS lo hi V d aa an ac ra rn rc wa wn wc la ln lc s∧hi≤V.heap.size):=fun V hV=>⟨(h.below T ap).below hV (Nat.le_trans ap T.size),Nat.le_trans (Nat.le_trans ap T.size) hV.size⟩
 have HF:Hid (∀ V,Below W.heap.size W V→Below w.heap.size w V):=fun V hV=>T.trans (hV.mono T.size)
 have H0:Hid (Below W.heap.size W W):=Below.refl _ _;have a1:Hid (s.atoms.length=an):=h.atoms.len;have aL:Hid (s.l.length=ln):=h.l.len;have ar:Hid (s.roles.length=rn):=h.roles.len;have L:Hid (headB s=(decide (an≤24) && (decide (rn≤3) && (decide (wn≤3) && (namesB false s.roles && (namesB false s.who && decide (ln≤200))))))):=by unfold Hid headB;rw [h.atoms.len,h.roles.len,h.who.len,h.l.len]
 have aO:Hid (bulks s.atoms≤1048576):=aD;have bi:=h.atoms.fits;have bh:=h.roles.fits;have bg:=h.who.fits;have bf:=h.l.fits;obtain ⟨z0,z1,z2,z3,_⟩:=a3.cells;clear h T hW a3 aD;go_enter Tryz.func25, Tryz.ntmps25;go_upto_region 1 with fail;rw [← HW.out];by_cases c1:24<an
 · have HE:Hid (clsB s=false):=by unfold Hid clsB;rw [L.out,decide_eq_false (show ¬ an≤24 by omega)];rfl
   have aK:decide ((24:Int)<(an:Int))=true:=decide_eq_true (by omega);go_wp2_with fail;go_ret;exact ⟨rb HE.out.symm,HF.out _ H0.out⟩
 have aK:decide ((24:Int)<(an:Int))=false:=decide_eq_false (by omega);have D1:Hid (decide (an≤24)=true):=decide_eq_true (by omega);by_cases c2:3<rn
 · have HE:Hid (clsB s=false):=by unfold Hid clsB;rw [L.out,decide_eq_false (show ¬ rn≤3 by omega)];simp
   have aJ:decide ((3:Int)<(rn:Int))=true:=decide_eq_true (by omega);go_wp2_with fail;go_ret;exact ⟨rb HE.out.symm,HF.out _ H0.out⟩
 have aJ:decide ((3:Int)<(rn:Int))=false:=decide_eq_false (by omega);have D2:Hid (decide (rn≤3)=true):=decide_eq_true (by omega);by_cases c3:3<wn
 · have HE:Hid (clsB s=false):=by unfold Hid clsB;rw [L.out,decide_eq_false (show ¬ wn≤3 by omega)];simp
   have aI:decide ((3:Int)<(wn:Int))=true:=decide_eq_true (by omega);go_wp2_with fail;go_ret;exact ⟨rb HE.out.symm,HF.out _ H0.out⟩
 have aI:decide ((3:Int)<(wn:Int))=false:=decide_eq_false (by omega);have D3:Hid (decide (wn≤3)=true):=decide_eq_true (by omega);go_wp2_with fail;refine (l4names_any ra rn rc s.roles false W (HR.out _ H0.out).1.roles).mono ?_;rintro e w1 ⟨rfl,ba,aA⟩;have H1:Hid (Below W.heap.size W w1):=by unfold Hid;rw [aA];exact below_nN (Below.refl _ _) _
 obtain ⟨v1,am⟩:∃ v,v=namesB false s.roles:=⟨_,rfl⟩;rw [← am];have V1:Hid (namesB false s.roles=v1):=am.symm;clear aA am z0 z1 z2 z3;obtain ⟨z0,z1,z2,z3,_⟩:=(HS.out _ H1.out).cells;cases v1 with
 | false =>
  have HE:Hid (clsB s=false):=by unfold Hid clsB;rw [L.out,V1.out];simp
  go_wp2_with fail;go_ret;exact ⟨rb HE.out.symm,HF.out _ H1.out⟩
 | true =>
  go_wp2_with fail;refine (l4names_any wa wn wc s.who false w1 (HR.out _ H1.out).1.who).mono ?_;rintro e w2 ⟨rfl,b9,az⟩;have H2:Hid (Below W.heap.size W w2):=by unfold Hid;rw [az];exact below_nN H1.out _
  obtain ⟨v2,al⟩:∃ v,v=namesB false s.who:=⟨_,rfl⟩;rw [← al];have V2:Hid (namesB false s.who=v2):=al.symm;clear az al z0 z1 z2 z3;obtain ⟨z0,z1,z2,z3,_⟩:=(HS.out _ H2.out).cells;cases v2 with
  | false =>
   have HE:Hid (clsB s=false):=by unfold Hid clsB;rw [L.out,V2.out];simp
   go_wp2_with fail;go_ret;exact ⟨rb HE.out.symm,HF.out _ H2.out⟩
  | true =>
   by_cases c4:200<ln
   · have HE:Hid (clsB s=false):=by unfold Hid clsB;rw [L.out,decide_eq_false (show ¬ ln≤200 by omega)];simp
     have aH:decide ((200:Int)<(ln:Int))=true:=decide_eq_true (by omega);go_wp2_with fail;go_ret;exact ⟨rb HE.out.symm,HF.out _ H2.out⟩
   have aH:decide ((200:Int)<(ln:Int))=false:=decide_eq_false (by omega);have b4:Hid (headB s=true):=by unfold Hid;rw [L.out,D1.out,D2.out,D3.out,V1.out,V2.out,decide_eq_true (show ln≤200 by omega)];rfl
   clear D1 D2 D3 V1 V2 L aK aJ aI;go_wp2_with fail;clear aH;go_loopw [3] (fun i wr=>∃ j:Nat,j≤an∧i=.int .i64 j∧(∀ m,m<j→atomAt s.atoms m=true)∧Below W.heap.size W wr) (fun i _=>an - (intOf i).toNat)
   case atStart=>exact ⟨0,Nat.zero_le _,rfl,fun m hm=>absurd hm (by omega),H2.out⟩
   case round =>
    obtain ⟨j,hj,rfl,z,u⟩:=hrel;have a6:Hid (∀ m,m<j→atomAt s.atoms m=true):=z;have HB:Hid (Below W.heap.size W wr):=u;clear z0 z1 z2 z3;obtain ⟨z0,z1,z2,z3,_⟩:=(HS.out _ u).cells;by_cases hlt:j<an
    · have aZ:(j:Int)<(an:Int):=by omega
      have Y:j<s.atoms.length:=by rw [a1.out];exact hlt
      have I:=(HR.out _ u).1.atoms;rcases I.cells with e0 | ⟨ab,ao,e1,_,_,hc⟩
      · omega
      subst e1;obtain ⟨p0,p1,p2,p3,q0,q1,q2,q3,A⟩:=hc j hlt;obtain ⟨pk,aU,aS,aT,aR,aP,aQ,aX,aV,aW,rfl,rfl,rfl,rfl⟩:=A.form4S;have aM:Hid (RdC lo hi wr d (.agg #[.int .i64 pk,.slice aU aS aT,.slice aR aP aQ,.slice aX aV aW]) (s.atoms.getD j CN.zero)):=A;obtain ⟨c,a5⟩:∃ c,c=s.atoms.getD j CN.zero:=⟨_,rfl⟩;rw [← a5] at aM;have HC:Hid (c=s.atoms.getD j CN.zero):=a5;have b5:Hid (c.bulk≤1048576):=by unfold Hid;rw [a5];have:=getD_bulk_le s.atoms j Y;have:=aO.out;omega
      clear I hc A z u a5;go_wp2_with fail;refine (specConOk_any aM.out (HR.out _ HB.out).2).mono ?_;rintro e w3 ⟨rfl,aF⟩;obtain ⟨v3,ak⟩:∃ v,v=conOk c:=⟨_,rfl⟩;rw [← ak];have V3:Hid (conOk c=v3):=ak.symm;have H3:Hid (Below W.heap.size W w3):=HB.out.trans (aF.mono HB.out.size);clear aF ak q0 q1 q2 q3 z0 z1 z2 z3;obtain ⟨z0,z1,z2,z3,_⟩:=(HS.out _ H3.out).cells;cases v3 with
      | false =>
       have HE:Hid (clsB s=false):=by unfold Hid clsB;rw [atomsB_no Y (atomAt_no (by rw [← HC.out];exact V3.out))];simp
       go_wp2_with fail;go_ret;exact ⟨rb HE.out.symm,HF.out _ H3.out⟩
      | true =>
       go_wp2_with fail;go_loopw [4] (fun i wr=>∃ m:Nat,m≤j∧i=.int .i64 m∧(∀ q,q<m→sameC (s.atoms.getD q CN.zero) c=false)∧Below W.heap.size W wr) (fun i _=>j - (intOf i).toNat)
       case atStart=>exact ⟨0,Nat.zero_le _,rfl,fun m hm=>absurd hm (by omega),H3.out⟩
       case round =>
        obtain ⟨m,hm,rfl,a4,u⟩:=hrel;have b3:Hid (∀ q,q<m→sameC (s.atoms.getD q CN.zero) c=false):=a4;have b6:Hid (Below W.heap.size W wr):=u;clear z0 z1 z2 z3;obtain ⟨z0,z1,z2,z3,_⟩:=(HS.out _ u).cells;by_cases hmj:m<j
        · have aY:(m:Int)<(j:Int):=by omega
          have bc:(m:Int)<(an:Int):=by omega
          have I:=(HR.out _ u).1.atoms;rcases I.cells with e0 | ⟨ab',ao',e1,_,a0,hc⟩
          · omega
          cases e1;obtain ⟨p0,p1,p2,p3,q0,q1,q2,q3,A⟩:=hc j hlt;obtain ⟨o0,o1,o2,o3,r0,r1,r2,r3,G⟩:=hc m (by omega);obtain ⟨pk',pna',pnn',pnc',pra',prn',prc',pka',pkn',pkc',rfl,rfl,rfl,rfl⟩:=A.form4S;obtain ⟨ok,ag,ae,af,ad,a8,a9,aj,ah,ai,rfl,rfl,rfl,rfl⟩:=G.form4S;rw [← HC.out] at A;obtain ⟨c2,Z⟩:∃ c2,c2=s.atoms.getD m CN.zero:=⟨_,rfl⟩;rw [← Z] at G;have aN:Hid (c2=s.atoms.getD m CN.zero):=Z;have D:Hid (Below W.heap.size W wr.drew):=u.drew;have HA:Hid (RdC lo hi wr.drew d (.agg #[.int .i64 pk',.slice pna' pnn' pnc',.slice pra' prn' prc',.slice pka' pkn' pkc']) c):=A.below (B:=wr.heap.size) (Below.refl _ _).drew (HR.out _ u).2;have b8:Hid (RdC lo hi wr.drew d (.agg #[.int .i64 ok,.slice ag ae af,.slice ad a8 a9,.slice aj ah ai]) c2):=G.below (B:=wr.heap.size) (Below.refl _ _).drew (HR.out _ u).2;have ay:Hid (c2.bulk≤1048576):=by unfold Hid;rw [Z];have:=getD_bulk_le s.atoms m (by omega);have:=aO.out;omega
          have b0:Hid (wfC c2=true):=by unfold Hid;rw [Z];exact atomAt_wf (a6.out m hmj)
          have b1:Hid (wfC c=true):=wfC_of_ok V3.out;have aC:hi≤wr.drew.heap.size:=(HR.out _ u).2;obtain ⟨v4,U⟩:∃ v,v=sameC c2 c:=⟨_,rfl⟩;have V4:Hid (sameC c2 c=v4):=U.symm;have F:ab<W.heap.size:=Nat.lt_of_lt_of_le a0 (HR.out _ H0.out).2;have cv:∀ V,Below W.heap.size W V→∀ o,V.cell? ⟨ab,o,none⟩=wr.cell? ⟨ab,o,none⟩:=fun V hV o=>(hV.cell (p:=⟨ab,o,none⟩) F).trans (u.cell (p:=⟨ab,o,none⟩) F).symm
          have E:Hid (∀ V,Below W.heap.size W V→(V.cell? ⟨w.heap.size,0,none⟩=some (.slice (some ⟨ab,ao,none⟩) an ac)∧V.cell? ⟨w.heap.size,1,none⟩=some (.slice ra rn rc)∧V.cell? ⟨w.heap.size,2,none⟩=some (.slice wa wn wc)∧V.cell? ⟨w.heap.size,3,none⟩=some (.slice la ln lc))∧(V.cell? ⟨ab,ao+j*4,none⟩=some (.int .i64 pk')∧V.cell? ⟨ab,ao+j*4+1,none⟩=some (.slice pna' pnn' pnc')∧V.cell? ⟨ab,ao+j*4+2,none⟩=some (.slice pra' prn' prc')∧V.cell? ⟨ab,ao+j*4+3,none⟩=some (.slice pka' pkn' pkc'))∧(V.cell? ⟨ab,ao+m*4,none⟩=some (.int .i64 ok)∧V.cell? ⟨ab,ao+m*4+1,none⟩=some (.slice ag ae af)∧V.cell? ⟨ab,ao+m*4+2,none⟩=some (.slice ad a8 a9)∧V.cell? ⟨ab,ao+m*4+3,none⟩=some (.slice aj ah ai))):=fun V hV=>by
           obtain ⟨x0,x1,x2,x3,_⟩:=(HS.out _ hV).cells;exact ⟨⟨x0,x1,x2,x3⟩,⟨(cv V hV _).trans q0,(cv V hV _).trans q1,(cv V hV _).trans q2,(cv V hV _).trans q3⟩,(cv V hV _).trans r0,(cv V hV _).trans r1,(cv V hV _).trans r2,(cv V hV _).trans r3⟩
          clear I hc A G a4 u Z U cv a0;go_upto_region 11 with fail
          go_region_held3 (fun V=>(V.cell? ⟨w.heap.size,0,none⟩=some (.slice (some ⟨ab,ao,none⟩) an ac)∧V.cell? ⟨w.heap.size,1,none⟩=some (.slice ra rn rc)∧V.cell? ⟨w.heap.size,2,none⟩=some (.slice wa wn wc)∧V.cell? ⟨w.heap.size,3,none⟩=some (.slice la ln lc))∧(V.cell? ⟨ab,ao+j*4,none⟩=some (.int .i64 pk')∧V.cell? ⟨ab,ao+j*4+1,none⟩=some (.slice pna' pnn' pnc')∧V.cell? ⟨ab,ao+j*4+2,none⟩=some (.slice pra' prn' prc')∧V.cell? ⟨ab,ao+j*4+3,none⟩=some (.slice pka' pkn' pkc'))∧(V.cell? ⟨ab,ao+m*4,none⟩=some (.int .i64 ok)∧V.cell? ⟨ab,ao+m*4+1,none⟩=some (.slice ag ae af)∧V.cell? ⟨ab,ao+m*4+2,none⟩=some (.slice ad a8 a9)∧V.cell? ⟨ab,ao+m*4+3,none⟩=some (.slice aj ah ai))) (first | with_reducible exact E.out _ H5.out | with_reducible exact E.out _ D.out) (first
           | (go_at_call 56;refine (l2same_any b8.out HA.out aC aC ay.out b5.out b0.out b1.out).mono ?_;rintro e w5 ⟨rfl,J⟩;rw [V4.out];have H5:Hid (Below W.heap.size W w5):=D.out.trans (J.mono D.out.size);clear J))
          all_goals
           cases v4 with
           | true =>
            have HE:Hid (clsB s=false):=by unfold Hid clsB;rw [atomsB_no Y (atomAt_twice hmj (by rw [← HC.out,← aN.out];exact V4.out))];simp
            go_wp2_with fail;go_ret;exact ⟨rb HE.out.symm,HF.out _ H5.out⟩
           | false =>
            have HN:Hid (∀ q,q<m+1→sameC (s.atoms.getD q CN.zero) c=false):=fun q hq=>by
             by_cases e:q=m
             · subst e;rw [← aN.out];exact V4.out
             exact b3.out q (by omega)
            go_wp2_with fail;go_roundw
            case rel=>exact ⟨m+1,by omega,by go_num,HN.out,H5.out⟩
            case measure=>simp [intOf];omega
        have b2:Hid (∀ m,m<j+1→atomAt s.atoms m=true):=fun q hq=>by
         by_cases e:q=j
         · subst e;exact atomAt_yes (by rw [← HC.out];exact V3.out) (fun m' bd=>by rw [← HC.out];exact a4 m' (by omega))
         exact a6.out q (by omega)
        clear a4 u;have aY:¬ (m:Int)<(j:Int):=by omega
        go_wp2_with fail;go_roundw
        case rel=>exact ⟨j+1,by omega,by go_num,b2.out,b6.out⟩
        case measure=>simp [intOf];omega
    have b7:Hid (atomsB s.atoms=true):=atomsB_yes a1.out (fun i hi=>z i (by omega));clear z u;go_wp2_with fail;go_loopw [5] (fun i wr=>∃ j:Nat,j≤ln∧i=.int .i64 j∧(∀ m,m<j→fitK an rn (s.l.getD m CL.zero)=true)∧Below W.heap.size W wr) (fun i _=>ln - (intOf i).toNat)
    case atStart=>exact ⟨0,Nat.zero_le _,rfl,fun m hm=>absurd hm (by omega),HB.out⟩
    case round =>
     obtain ⟨j,hj,rfl,z,u⟩:=hrel;have a6:Hid (∀ m,m<j→fitK an rn (s.l.getD m CL.zero)=true):=z;have HB:Hid (Below W.heap.size W wr):=u;clear z0 z1 z2 z3;obtain ⟨z0,z1,z2,z3,_⟩:=(HS.out _ u).cells;by_cases hlt:j<ln
     · have aZ:(j:Int)<(ln:Int):=by omega
       have Y:j<s.l.length:=by rw [aL.out];exact hlt
       have I:=(HR.out _ u).1.l;rcases I.cells with e0 | ⟨ab,ao,e1,_,a0,hc⟩
       · omega
       subst e1;obtain ⟨ia,im,ic,q0,q1,q2,q3,q4,q5,q6,q7,q8,q9,a7,A⟩:=hc j hlt;obtain ⟨x,hx⟩:∃ x,x=s.l.getD j CL.zero:=⟨_,rfl⟩;rw [← hx] at q0 q1 q2 q3 q4 q5 q6 q7 q9 a7 A;have HX:Hid (x=s.l.getD j CL.zero):=hx;obtain ⟨xk,xf,xr,xu,O,R,M,N,xi,xa,xb⟩:=x;dsimp only at q0 q1 q2 q3 q4 q5 q6 q7 q9 a7 A;have F:ab<W.heap.size:=Nat.lt_of_lt_of_le a0 (HR.out _ H0.out).2;have cv:∀ V,Below W.heap.size W V→∀ o,V.cell? ⟨ab,o,none⟩=wr.cell? ⟨ab,o,none⟩:=fun V hV o=>(hV.cell (p:=⟨ab,o,none⟩) F).trans (u.cell (p:=⟨ab,o,none⟩) F).symm
       have E:Hid (∀ V,Below W.heap.size W V→(V.cell? ⟨w.heap.size,0,none⟩=some (.slice aa an ac)∧V.cell? ⟨w.heap.size,1,none⟩=some (.slice ra rn rc)∧V.cell? ⟨w.heap.size,2,none⟩=some (.slice wa wn wc)∧V.cell? ⟨w.heap.size,3,none⟩=some (.slice (some ⟨ab,ao,none⟩) ln lc))∧(V.cell? ⟨ab,ao+j*11,none⟩=some (.int .i64 xk)∧V.cell? ⟨ab,ao+j*11+1,none⟩=some (.int .i64 xf)∧V.cell? ⟨ab,ao+j*11+2,none⟩=some (.int .i64 xr)∧V.cell? ⟨ab,ao+j*11+3,none⟩=some (.int .i64 xu)∧V.cell? ⟨ab,ao+j*11+4,none⟩=some (.int .i64 O)∧V.cell? ⟨ab,ao+j*11+5,none⟩=some (.int .i64 R)∧V.cell? ⟨ab,ao+j*11+6,none⟩=some (.int .i64 M)∧V.cell? ⟨ab,ao+j*11+7,none⟩=some (.int .i64 N)∧V.cell? ⟨ab,ao+j*11+8,none⟩=some (.slice ia im ic)∧V.cell? ⟨ab,ao+j*11+9,none⟩=some (.int .i64 xa)∧V.cell? ⟨ab,ao+j*11+10,none⟩=some (.int .i64 xb))):=fun V hV=>by
        obtain ⟨x0,x1,x2,x3,_⟩:=(HS.out _ hV).cells;exact ⟨⟨x0,x1,x2,x3⟩,(cv V hV _).trans q0,(cv V hV _).trans q1,(cv V hV _).trans q2,(cv V hV _).trans q3,(cv V hV _).trans q4,(cv V hV _).trans q5,(cv V hV _).trans q6,(cv V hV _).trans q7,(cv V hV _).trans q8,(cv V hV _).trans q9,(cv V hV _).trans a7⟩
       have aG:Same lo hi wr W:=fun b h1 h2=>(u.block b (Nat.lt_of_lt_of_le h2 (HR.out _ H0.out).2)).symm
       have aq:Hid (∀ V,Below W.heap.size W V→RP lo hi V ia im ic xi):=fun V hV=>(A.same aG).below hV (HR.out _ H0.out).2
       have D:Hid (Below W.heap.size W wr.drew):=u.drew;obtain ⟨v4,U⟩:∃ v,v=clauseB xk xf xr xu O R M N xi xa xb:=⟨_,rfl⟩;have V4:Hid (clauseB xk xf xr xu O R M N xi xa xb=v4):=U.symm;have au:Hid (fitK an rn (s.l.getD j CL.zero)=(v4 && nameB an rn ⟨xk,xf,xr,xu,O,R,M,N,xi,xa,xb⟩)):=by unfold Hid;rw [← HX.out,U];rfl
       have av:an≤24:=by omega
       clear I hc A z u hx U cv a0 aG;cases v4 with
       | false =>
        have HE:Hid (clsB s=false):=by unfold Hid clsB;rw [a1.out,ar.out,all_not (d:=CL.zero) Y (by rw [au.out];rfl)];simp
        go_upto_region 16 with fail
        go_region_with (go_at_call 26;refine (specClauseOk_any (aq.out _ D.out) (HR.out _ D.out).2).mono ?_;rintro e w5 ⟨rfl,J⟩;rw [V4.out];have H5:Hid (Below W.heap.size W w5):=D.out.trans (J.mono D.out.size);clear J;go_wp2_with fail;(refine wpAny_take (i:=6) (v:=(.bool true)) rfl (by kernel_rfl) (by kernel_rfl) (by kernel_rfl) (fun _ _ _ h=>h) (Or.inl ⟨by rfl,fun w=>by first | rfl | go_simp⟩) ?_;try simp only [List.getElem_toArray,List.getElem_cons_succ,List.getElem_cons_zero,Act.put,List.setIfInBounds_toArray,List.set_cons_zero,List.set_cons_succ]);(refine wpAny_take (i:=7) (v:=(.bool true)) rfl (by kernel_rfl) (by kernel_rfl) (by kernel_rfl) (fun _ _ _ h=>h) (Or.inl ⟨by rfl,fun w=>by first | rfl | go_simp⟩) ?_;try simp only [List.getElem_toArray,List.getElem_cons_succ,List.getElem_cons_zero,Act.put,List.setIfInBounds_toArray,List.set_cons_zero,List.set_cons_succ]);(refine wpAny_take (i:=8) (v:=undef) rfl (by kernel_rfl) (by kernel_rfl) (by kernel_rfl) (fun _ _ _ h=>h) (Or.inr ⟨by rfl,rfl⟩) ?_;try simp only [List.getElem_toArray,List.getElem_cons_succ,List.getElem_cons_zero,Act.put,List.setIfInBounds_toArray,List.set_cons_zero,List.set_cons_succ]);(refine wpAny_take (i:=9) (v:=undef) rfl (by kernel_rfl) (by kernel_rfl) (by kernel_rfl) (fun _ _ _ h=>h) (Or.inr ⟨by rfl,rfl⟩) ?_;try simp only [List.getElem_toArray,List.getElem_cons_succ,List.getElem_cons_zero,Act.put,List.setIfInBounds_toArray,List.set_cons_zero,List.set_cons_succ]);(refine wpAny_take (i:=10) (v:=undef) rfl (by kernel_rfl) (by kernel_rfl) (by kernel_rfl) (fun _ _ _ h=>h) (Or.inr ⟨by rfl,rfl⟩) ?_;try simp only [List.getElem_toArray,List.getElem_cons_succ,List.getElem_cons_zero,Act.put,List.setIfInBounds_toArray,List.set_cons_zero,List.set_cons_succ]);(refine wpAny_take (i:=11) (v:=undef) rfl (by kernel_rfl) (by kernel_rfl) (by kernel_rfl) (fun _ _ _ h=>h) (Or.inr ⟨by rfl,rfl⟩) ?_;try simp only [List.getElem_toArray,List.getElem_cons_succ,List.getElem_cons_zero,Act.put,List.setIfInBounds_toArray,List.set_cons_zero,List.set_cons_succ]);(refine wpAny_take (i:=12) (v:=undef) rfl (by kernel_rfl) (by kernel_rfl) (by kernel_rfl) (fun _ _ _ h=>h) (Or.inr ⟨by rfl,rfl⟩) ?_;try simp only [List.getElem_toArray,List.getElem_cons_succ,List.getElem_cons_zero,Act.put,List.setIfInBounds_toArray,List.set_cons_zero,List.set_cons_succ]);(refine wpAny_take (i:=13) (v:=undef) rfl (by kernel_rfl) (by kernel_rfl) (by kernel_rfl) (fun _ _ _ h=>h) (Or.inr ⟨by rfl,rfl⟩) ?_;try simp only [List.getElem_toArray,List.getElem_cons_succ,List.getElem_cons_zero,Act.put,List.setIfInBounds_toArray,List.set_cons_zero,List.set_cons_succ]);(refine wpAny_all (rs:=[14]) (by kernel_rfl) (by simp) ?_;intro bb a2;(have ax:=List.mem_singleton.1 a2);subst ax;clear a2;refine Yields.wpOp (v:=undef) rfl (Or.inr ⟨by rfl,rfl⟩) ?_;try simp only [List.getElem_toArray,List.getElem_cons_succ,List.getElem_cons_zero,Act.put,List.setIfInBounds_toArray,List.set_cons_zero,List.set_cons_succ]);(refine wpAny_take (i:=15) (v:=undef) rfl (by kernel_rfl) (by kernel_rfl) (by kernel_rfl) (fun _ _ _ h=>h) (Or.inr ⟨by rfl,rfl⟩) ?_;try simp only [List.getElem_toArray,List.getElem_cons_succ,List.getElem_cons_zero,Act.put,List.setIfInBounds_toArray,List.set_cons_zero,List.set_cons_succ]))
        all_goals
         go_wp2_with fail;go_ret;exact ⟨rb HE.out.symm,HF.out _ H5.out⟩
       | true =>
        obtain ⟨v5,aB⟩:∃ v,v=nameB an rn ⟨xk,xf,xr,xu,O,R,M,N,xi,xa,xb⟩:=⟨_,rfl⟩;have V5:Hid (nameB an rn ⟨xk,xf,xr,xu,O,R,M,N,xi,xa,xb⟩=v5):=aB.symm;clear aB;go_upto_region 16 with fail
        go_region_held3 (fun V=>(V.cell? ⟨w.heap.size,0,none⟩=some (.slice aa an ac)∧V.cell? ⟨w.heap.size,1,none⟩=some (.slice ra rn rc)∧V.cell? ⟨w.heap.size,2,none⟩=some (.slice wa wn wc)∧V.cell? ⟨w.heap.size,3,none⟩=some (.slice (some ⟨ab,ao,none⟩) ln lc))∧(V.cell? ⟨ab,ao+j*11,none⟩=some (.int .i64 xk)∧V.cell? ⟨ab,ao+j*11+1,none⟩=some (.int .i64 xf)∧V.cell? ⟨ab,ao+j*11+2,none⟩=some (.int .i64 xr)∧V.cell? ⟨ab,ao+j*11+3,none⟩=some (.int .i64 xu)∧V.cell? ⟨ab,ao+j*11+4,none⟩=some (.int .i64 O)∧V.cell? ⟨ab,ao+j*11+5,none⟩=some (.int .i64 R)∧V.cell? ⟨ab,ao+j*11+6,none⟩=some (.int .i64 M)∧V.cell? ⟨ab,ao+j*11+7,none⟩=some (.int .i64 N)∧V.cell? ⟨ab,ao+j*11+8,none⟩=some (.slice ia im ic)∧V.cell? ⟨ab,ao+j*11+9,none⟩=some (.int .i64 xa)∧V.cell? ⟨ab,ao+j*11+10,none⟩=some (.int .i64 xb))) (first | with_reducible exact E.out _ H6.out | with_reducible exact E.out _ H5.out | with_reducible exact E.out _ D.out) (first
         | (go_at_call 26;refine (specClauseOk_any (aq.out _ D.out) (HR.out _ D.out).2).mono ?_;rintro e w5 ⟨rfl,J⟩;rw [V4.out];have H5:Hid (Below W.heap.size W w5):=D.out.trans (J.mono D.out.size);clear J)
         | (go_at_call 27;refine (l6names_any (aq.out _ H5.out) (HR.out _ H5.out).2 av).mono ?_;rintro e w6 ⟨rfl,aE⟩;rw [V5.out];have H6:Hid (Below W.heap.size W w6):=H5.out.trans (aE.mono H5.out.size);clear aE))
        all_goals
         cases v5 with
         | false =>
          have HE:Hid (clsB s=false):=by unfold Hid clsB;rw [a1.out,ar.out,all_not (d:=CL.zero) Y (by rw [au.out,V5.out];rfl)];simp
          go_wp2_with fail;go_ret;exact ⟨rb HE.out.symm,HF.out _ H6.out⟩
         | true =>
          have HN:Hid (∀ m,m<j+1→fitK an rn (s.l.getD m CL.zero)=true):=fun m hm=>by
           by_cases e:m=j
           · subst e;rw [au.out,V5.out];rfl
           exact a6.out m (by omega)
          go_wp2_with fail;go_roundw
          case rel=>exact ⟨j+1,by omega,by go_num,HN.out,H6.out⟩
          case measure=>simp [intOf];omega
     have HE:Hid (clsB s=true):=by unfold Hid clsB;rw [b4.out,b7.out,a1.out,ar.out,all_take (d:=CL.zero) aL.out (fun m hm=>z m (by omega))];rfl
     clear z u;go_wp2_with fail;go_ret;exact ⟨rb HE.out.symm,HF.out _ HB.out⟩
end Go.Proofs.YtellcgmabimieaaGreatDoor
