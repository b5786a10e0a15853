/- The model's look at a concept, where nothing is wrong with the outermost part's place and count. -/
import Derived.Test.YtellcgmabimieaaGreatDoorNG6
namespace Go.Proofs.YtellcgmabimieaaGreatDoor
open Go.RowKit
theorem upOk_nil_of {zs:List Int} (h:zs.length=0):upOk zs=false:=by simp [upOk,longB,h]
theorem lowOk_nil_of {zs:List Int} (h:zs.length=0):lowOk zs=false:=by simp [lowOk,longB,h]
set_option maxRecDepth 100000 in
set_option maxHeartbeats 4000000 in
theorem l2ok_good {d:Nat} (H:OkC d) {v:Value} {c:CN} {deep:Nat} {left:Int} {w:World} {lo hi:Nat} (h:RdC lo hi w (d+1) v c) (G:hi≤w.heap.size) (ah:deep≤6) (h0:1≤left) (ai:left≤16)
    (ao:0≤c.kind) (an:c.kind≤7) (V:((c.kids.length:Nat):Int)=kidS c.kind) :
    Calls Tryz.prog 87 #[v,.int .i64 deep,.int .i64 left] w fun e w'=>e=.returned (.int .i64 (leftOf left (parts c deep)))∧Below w.heap.size w w':=by
 obtain ⟨na,nn,nc,ra,rn,rc,ka,kn,kc,rfl,hn,hr,hk⟩:=h;have ag:=hk.len;have al:=hn.len;have aj:=hr.len;have aC:=hk.fits;have aA:=hn.fits;have az:=hr.fits;have au:((c.kids.length:Nat):Int)=kidN c.kind:=by rw [V,kidS_kidN ao an]
 have A:Hid (nameFit c=false∨roleFit c=false→leftOf left (parts c deep)=-1):=fun h=>leftOf_bad c deep left (.inr (.inr (by unfold shapeB;rcases h with h | h <;> simp [h])))
 have N:Hid (nameFit c=true→roleFit c=true→leftOf left (parts c deep)=leftOf (left - 1) (partsL c.kids (deep+1))):=fun a b=>leftOf_good c deep left (by omega) ah (by unfold shapeB;rw [a,b,au];simp)
 have T:Hid (nameFit c=if c.kind=2 then (upOk c.name && !keptB (strOfNums c.name).toList) else decide (c.name.length=0)):=rfl;have M:Hid (roleFit c=if roleB c.kind=true then lowOk c.role else decide (c.role.length=0)):=rfl;obtain ⟨k,am⟩:∃ k,k=c.kind:=⟨_,rfl⟩;rw [← am] at ao an V T M ⊢;rw [ag] at V;have a4:Hid (c.kids.length=kn):=ag;have a5:Below w.heap.size w (w.alloc (.cells #[.int .i64 k,.slice na nn nc,.slice ra rn rc,.slice ka kn kc] 104)):=(Below.refl _ _).alloc (Nat.le_refl _) _;have a6:Hid (Below w.heap.size w (w.alloc (.cells #[.int .i64 k,.slice na nn nc,.slice ra rn rc,.slice ka kn kc] 104))):=a5;have ac:Hid (BoxC (w.alloc (.cells #[.int .i64 k,.slice na nn nc,.slice ra rn rc,.slice ka kn kc] 104)) w.heap.size (.int .i64 k) (.slice na nn nc) (.slice ra rn rc) (.slice ka kn kc)):=BoxC.new w _ _ _ _;have HN:Hid (Rd lo hi w na nn nc c.name):=hn;have HR:Hid (Rd lo hi w ra rn rc c.role):=hr;have HK:Hid (RdL (RdC lo hi w d) lo hi w ka kn kc c.kids):=hk;have aE:(deep:Int)≤6:=by omega
 have d1:decide (left - 1<0)=false:=by simp;omega
 have d2:decide ((6:Int)<(deep:Int))=false:=by simp;omega
 have d3:decide (k<0)=false:=by simp;omega
 have d4:decide (7<k)=false:=by simp;omega
 have b5:((kn:Int) != kidS k)=false:=by simp;omega
 clear hn hr hk am ag a5;rw [al] at T;rw [aj] at M;clear al aj;go_enter Tryz.func87, Tryz.ntmps87;go_wp2_with fail;go_quiet (first | (go_at_call 111;exact Calls.quiet_of_same (l2kids_any _ _)));obtain ⟨W1,ad⟩:∃ W1,W1=(w.alloc (.cells #[.int .i64 k,.slice na nn nc,.slice ra rn rc,.slice ka kn kc] 104)).drewN nq:=⟨_,rfl⟩;rw [← ad];have z:Hid (Below w.heap.size w W1):=by unfold Hid;rw [ad];exact below_drewN a6.out nq
 have E:Hid (BoxC W1 w.heap.size (.int .i64 k) (.slice na nn nc) (.slice ra rn rc) (.slice ka kn kc)):=by unfold Hid;rw [ad];exact ac.out
 clear ad a6 ac d1 d2 d3 d4 b5;obtain ⟨c0,c1,c2,c3⟩:=E.out.cells;by_cases k2:k=2
 · subst k2;have ar:kn=0:=by simp [kidS] at V;omega
   subst ar;rw [if_pos rfl] at T;have ab:Hid (roleFit c=decide (rn=0)):=by unfold Hid;rw [M.out];simp [roleB]
   clear M;by_cases n0:nn=0
   · subst n0;have HX:Hid (nameFit c=false):=by unfold Hid;rw [T.out,upOk_nil_of HN.out.len];rfl
     go_wp2_with fail;go_ret;exact ⟨ri (A.out (.inl HX.out)).symm,z.out⟩
   have aq:(0:Int)<(nn:Int):=by omega
   have a3:Hid (Rd lo hi W1 na nn nc c.name):=HN.out.below z.out G;cases hU:upOk c.name
   · have HX:Hid (nameFit c=false):=by unfold Hid;rw [T.out,hU];rfl
     go_wp2_with (first | (go_at_call 85;refine (specUpperOk_any na nn nc c.name _ a3.out).mono ?_;rintro e w' ⟨rfl,hw⟩;rw [hw,hU];clear hw));go_ret;exact ⟨ri (A.out (.inl HX.out)).symm,z.out⟩
   cases a9:keptB (strOfNums c.name).toList
   · have HX:Hid (nameFit c=true):=by unfold Hid;rw [T.out,hU,a9];rfl
     by_cases r0:rn=0
     · subst r0
       have HG:Hid (leftOf left (parts c deep)=left - 1):=by
        unfold Hid;rw [N.out HX.out (by rw [ab.out];rfl),List.eq_nil_of_length_eq_zero a4.out,partsL,leftOf_nil _ (by omega)]
       go_wp2_with (first | (go_at_call 85;refine (specUpperOk_any na nn nc c.name _ a3.out).mono ?_;rintro e w' ⟨rfl,hw⟩;rw [hw,hU];clear hw) | (go_at_call 112;refine (specKept_any na nn nc c.name _ a3.out (Nat.le_trans G z.out.size)).mono ?_;rintro e W2 ⟨rfl,R⟩;rw [a9];have o:Hid (BoxC W2 w.heap.size (.int .i64 2) (.slice na nn nc) (.slice ra 0 rc) (.slice ka 0 kc)):=E.out.below R E.out.lt;have D:Hid (Below w.heap.size w W2):=z.out.trans (R.mono z.out.size);clear R c0 c1 c2 c3;obtain ⟨c0,c1,c2,c3⟩:=o.out.cells));refine wp_loop_rounds 1 ?_;rw [rounds_succ];go_wp2_with fail;go_ret;exact ⟨ri HG.out.symm,D.out⟩
     have af:(0:Int)<(rn:Int):=by omega
     have HY:Hid (roleFit c=false):=by unfold Hid;rw [ab.out];simpa using r0
     go_wp2_with (first | (go_at_call 85;refine (specUpperOk_any na nn nc c.name _ a3.out).mono ?_;rintro e w' ⟨rfl,hw⟩;rw [hw,hU];clear hw) | (go_at_call 112;refine (specKept_any na nn nc c.name _ a3.out (Nat.le_trans G z.out.size)).mono ?_;rintro e W2 ⟨rfl,R⟩;rw [a9];have o:Hid (BoxC W2 w.heap.size (.int .i64 2) (.slice na nn nc) (.slice ra rn rc) (.slice ka 0 kc)):=E.out.below R E.out.lt;have D:Hid (Below w.heap.size w W2):=z.out.trans (R.mono z.out.size);clear R c0 c1 c2 c3;obtain ⟨c0,c1,c2,c3⟩:=o.out.cells));go_ret;exact ⟨ri (A.out (.inr HY.out)).symm,D.out⟩
   have HX:Hid (nameFit c=false):=by unfold Hid;rw [T.out,hU,a9];rfl
   go_wp2_with (first | (go_at_call 85;refine (specUpperOk_any na nn nc c.name _ a3.out).mono ?_;rintro e w' ⟨rfl,hw⟩;rw [hw,hU];clear hw) | (go_at_call 112;refine (specKept_any na nn nc c.name _ a3.out (Nat.le_trans G z.out.size)).mono ?_;rintro e W2 ⟨rfl,R⟩;rw [a9];have D:Hid (Below w.heap.size w W2):=z.out.trans (R.mono z.out.size);clear R));go_ret;exact ⟨ri (A.out (.inl HX.out)).symm,D.out⟩
 rw [if_neg k2] at T;have aD:(k == 2)=false:=by simpa using k2
 by_cases n0:nn=0
 · subst n0;have HX:Hid (nameFit c=true):=by unfold Hid;rw [T.out];rfl
   have ae:Hid (Rd lo hi W1 ra rn rc c.role):=HR.out.below z.out G;by_cases m:k=6∨k=7
   · rw [if_pos (show roleB k=true from by unfold roleB;simp;exact m)] at M
     have hm:(k == 6)=true∨((k == 6)=false∧(k == 7)=true):=by
      rcases m with h | h
      · exact .inl (by simp [h])
      exact .inr ⟨by simp [h],by simp [h]⟩
     rcases hm with hm | ⟨hm,aB⟩
     · by_cases r0:rn=0
       · subst r0;have HY:Hid (roleFit c=false):=by unfold Hid;rw [M.out,lowOk_nil_of HR.out.len]
         go_wp2_with fail;go_ret;exact ⟨ri (A.out (.inr HY.out)).symm,z.out⟩
       have af:(0:Int)<(rn:Int):=by omega
       cases U:lowOk c.role
       · have HY:Hid (roleFit c=false):=by unfold Hid;rw [M.out,U]
         go_wp2_with (first | (go_at_call 86;refine (specLowerOk_any ra rn rc c.role _ ae.out).mono ?_;rintro e w' ⟨rfl,hw⟩;rw [hw,U];clear hw));go_ret;exact ⟨ri (A.out (.inr HY.out)).symm,z.out⟩
       have HG:Hid (leftOf left (parts c deep)=leftOf (left - 1) (partsL c.kids (deep+1))):=N.out HX.out (by rw [M.out,U]);go_wp2_with (first | (go_at_call 86;refine (specLowerOk_any ra rn rc c.role _ ae.out).mono ?_;rintro e w' ⟨rfl,hw⟩;rw [hw,U];clear hw));go_loopw [2,8] (fun l i wr=>∃ (j:Nat) (L:Int),j≤kn∧i=.int .i64 j∧l=.int .i64 L∧0≤L∧L≤16∧leftOf (left - 1) (partsL (c.kids.take j) (deep+1))=L∧Below w.heap.size w wr∧BoxC wr w.heap.size (.int .i64 k) (.slice na 0 nc) (.slice ra rn rc) (.slice ka kn kc)) (fun _ i _=>kn - (intOf i).toNat)
       case atStart=>exact ⟨0,left - 1,Nat.zero_le _,rfl,rfl,by omega,by omega,by simp [partsL,leftOf_nil _ (show 0≤left - 1 by omega)],z.out,E.out⟩
       case round =>
        obtain ⟨j,L,hj,rfl,rfl,Z,a8,Y,u,q⟩:=hrel;obtain ⟨q0,q1,q2,q3⟩:=q.cells;have D:Hid (Below w.heap.size w wr):=u;have a1:Hid (leftOf (left - 1) (partsL (c.kids.take j) (deep+1))=L):=Y;have o:Hid (BoxC wr w.heap.size (.int .i64 k) (.slice na 0 nc) (.slice ra rn rc) (.slice ka kn kc)):=q;clear Y;by_cases hlt:j<kn
        · have hR:=HK.out.same (Same.of_below u G);rcases hR.cells with hz | ⟨b,a7,e1,_,_,hc⟩
          · omega
          subst e1;obtain ⟨v0,v1,v2,v3,c0,c1,c2,c3,hr⟩:=hc j hlt;have O:Hid (RdC lo hi wr d (.agg #[v0,v1,v2,v3]) (c.kids.getD j CN.zero)):=hr;have ap:(j:Int)<(kn:Int):=by omega
          obtain ⟨r,I⟩:∃ r,r=leftOf L (parts (c.kids.getD j CN.zero) (deep+1)):=⟨_,rfl⟩;have aa:Hid (r=leftOf L (parts (c.kids.getD j CN.zero) (deep+1))):=I
          have a0:Hid (leftOf (left - 1) (partsL (c.kids.take (j+1)) (deep+1))=r):=by
           unfold Hid;rw [partsL_take_succ _ _ _ (by rw [a4.out];exact hlt),leftOf_append,a1.out,if_neg (by omega),I]
          have ak:r≤L:=by rw [I];exact leftOf_le Z _
          clear hR hc hr u q I;go_wp2_with fail;refine (H (.agg #[v0,v1,v2,v3]) (c.kids.getD j CN.zero) (deep+1) L wr lo hi O.out (Nat.le_trans G D.out.size) (by omega) Z a8).mono ?_;rintro e w' ⟨rfl,J⟩;have a2:Hid (Below w.heap.size w w'):=D.out.trans (J.mono D.out.size);have F:Hid (BoxC w' w.heap.size (.int .i64 k) (.slice na 0 nc) (.slice ra rn rc) (.slice (some ⟨b,a7,none⟩) kn kc)):=o.out.below J o.out.lt;rw [← aa.out];clear J;by_cases hneg:r<0
          · have HE:Hid (leftOf left (parts c deep)=-1):=by
             unfold Hid;rw [HG.out,partsL_take_drop _ (j+1),leftOf_append,a0.out,if_pos hneg]
            go_wp2_with fail;go_ret;exact ⟨ri HE.out.symm,a2.out⟩
          go_wp2_with fail;go_roundw
          case rel=>exact ⟨j+1,r,by omega,by go_num,rfl,by omega,by omega,a0.out,a2.out,F.out⟩
          case measure=>simp [intOf];omega
        have HE:Hid (L=leftOf left (parts c deep)):=by
         unfold Hid;rw [HG.out,← a1.out,List.take_of_length_le (by rw [a4.out];omega)]
        clear u q;go_wp2_with fail;go_ret;exact ⟨ri HE.out,D.out⟩
     by_cases r0:rn=0
     · subst r0;have HY:Hid (roleFit c=false):=by unfold Hid;rw [M.out,lowOk_nil_of HR.out.len]
       go_wp2_with fail;go_ret;exact ⟨ri (A.out (.inr HY.out)).symm,z.out⟩
     have af:(0:Int)<(rn:Int):=by omega
     cases U:lowOk c.role
     · have HY:Hid (roleFit c=false):=by unfold Hid;rw [M.out,U]
       go_wp2_with (first | (go_at_call 86;refine (specLowerOk_any ra rn rc c.role _ ae.out).mono ?_;rintro e w' ⟨rfl,hw⟩;rw [hw,U];clear hw));go_ret;exact ⟨ri (A.out (.inr HY.out)).symm,z.out⟩
     have HG:Hid (leftOf left (parts c deep)=leftOf (left - 1) (partsL c.kids (deep+1))):=N.out HX.out (by rw [M.out,U]);go_wp2_with (first | (go_at_call 86;refine (specLowerOk_any ra rn rc c.role _ ae.out).mono ?_;rintro e w' ⟨rfl,hw⟩;rw [hw,U];clear hw));go_loopw [2,8] (fun l i wr=>∃ (j:Nat) (L:Int),j≤kn∧i=.int .i64 j∧l=.int .i64 L∧0≤L∧L≤16∧leftOf (left - 1) (partsL (c.kids.take j) (deep+1))=L∧Below w.heap.size w wr∧BoxC wr w.heap.size (.int .i64 k) (.slice na 0 nc) (.slice ra rn rc) (.slice ka kn kc)) (fun _ i _=>kn - (intOf i).toNat)
     case atStart=>exact ⟨0,left - 1,Nat.zero_le _,rfl,rfl,by omega,by omega,by simp [partsL,leftOf_nil _ (show 0≤left - 1 by omega)],z.out,E.out⟩
     case round =>
      obtain ⟨j,L,hj,rfl,rfl,Z,a8,Y,u,q⟩:=hrel;obtain ⟨q0,q1,q2,q3⟩:=q.cells;have D:Hid (Below w.heap.size w wr):=u;have a1:Hid (leftOf (left - 1) (partsL (c.kids.take j) (deep+1))=L):=Y;have o:Hid (BoxC wr w.heap.size (.int .i64 k) (.slice na 0 nc) (.slice ra rn rc) (.slice ka kn kc)):=q;clear Y;by_cases hlt:j<kn
      · have hR:=HK.out.same (Same.of_below u G);rcases hR.cells with hz | ⟨b,a7,e1,_,_,hc⟩
        · omega
        subst e1;obtain ⟨v0,v1,v2,v3,c0,c1,c2,c3,hr⟩:=hc j hlt;have O:Hid (RdC lo hi wr d (.agg #[v0,v1,v2,v3]) (c.kids.getD j CN.zero)):=hr;have ap:(j:Int)<(kn:Int):=by omega
        obtain ⟨r,I⟩:∃ r,r=leftOf L (parts (c.kids.getD j CN.zero) (deep+1)):=⟨_,rfl⟩;have aa:Hid (r=leftOf L (parts (c.kids.getD j CN.zero) (deep+1))):=I
        have a0:Hid (leftOf (left - 1) (partsL (c.kids.take (j+1)) (deep+1))=r):=by
         unfold Hid;rw [partsL_take_succ _ _ _ (by rw [a4.out];exact hlt),leftOf_append,a1.out,if_neg (by omega),I]
        have ak:r≤L:=by rw [I];exact leftOf_le Z _
        clear hR hc hr u q I;go_wp2_with fail;refine (H (.agg #[v0,v1,v2,v3]) (c.kids.getD j CN.zero) (deep+1) L wr lo hi O.out (Nat.le_trans G D.out.size) (by omega) Z a8).mono ?_;rintro e w' ⟨rfl,J⟩;have a2:Hid (Below w.heap.size w w'):=D.out.trans (J.mono D.out.size);have F:Hid (BoxC w' w.heap.size (.int .i64 k) (.slice na 0 nc) (.slice ra rn rc) (.slice (some ⟨b,a7,none⟩) kn kc)):=o.out.below J o.out.lt;rw [← aa.out];clear J;by_cases hneg:r<0
        · have HE:Hid (leftOf left (parts c deep)=-1):=by
           unfold Hid;rw [HG.out,partsL_take_drop _ (j+1),leftOf_append,a0.out,if_pos hneg]
          go_wp2_with fail;go_ret;exact ⟨ri HE.out.symm,a2.out⟩
        go_wp2_with fail;go_roundw
        case rel=>exact ⟨j+1,r,by omega,by go_num,rfl,by omega,by omega,a0.out,a2.out,F.out⟩
        case measure=>simp [intOf];omega
      have HE:Hid (L=leftOf left (parts c deep)):=by
       unfold Hid;rw [HG.out,← a1.out,List.take_of_length_le (by rw [a4.out];omega)]
      clear u q;go_wp2_with fail;go_ret;exact ⟨ri HE.out,D.out⟩
   rw [if_neg (show ¬ roleB k=true from by unfold roleB;simp;omega)] at M;have m6:(k == 6)=false:=by simp;omega
   have m7:(k == 7)=false:=by simp;omega
   by_cases r0:rn=0
   · subst r0;have HG:Hid (leftOf left (parts c deep)=leftOf (left - 1) (partsL c.kids (deep+1))):=N.out HX.out (by rw [M.out];rfl);go_wp2_with fail;go_loopw [2,8] (fun l i wr=>∃ (j:Nat) (L:Int),j≤kn∧i=.int .i64 j∧l=.int .i64 L∧0≤L∧L≤16∧leftOf (left - 1) (partsL (c.kids.take j) (deep+1))=L∧Below w.heap.size w wr∧BoxC wr w.heap.size (.int .i64 k) (.slice na 0 nc) (.slice ra 0 rc) (.slice ka kn kc)) (fun _ i _=>kn - (intOf i).toNat)
     case atStart=>exact ⟨0,left - 1,Nat.zero_le _,rfl,rfl,by omega,by omega,by simp [partsL,leftOf_nil _ (show 0≤left - 1 by omega)],z.out,E.out⟩
     case round =>
      obtain ⟨j,L,hj,rfl,rfl,Z,a8,Y,u,q⟩:=hrel;obtain ⟨q0,q1,q2,q3⟩:=q.cells;have D:Hid (Below w.heap.size w wr):=u;have a1:Hid (leftOf (left - 1) (partsL (c.kids.take j) (deep+1))=L):=Y;have o:Hid (BoxC wr w.heap.size (.int .i64 k) (.slice na 0 nc) (.slice ra 0 rc) (.slice ka kn kc)):=q;clear Y;by_cases hlt:j<kn
      · have hR:=HK.out.same (Same.of_below u G);rcases hR.cells with hz | ⟨b,a7,e1,_,_,hc⟩
        · omega
        subst e1;obtain ⟨v0,v1,v2,v3,c0,c1,c2,c3,hr⟩:=hc j hlt;have O:Hid (RdC lo hi wr d (.agg #[v0,v1,v2,v3]) (c.kids.getD j CN.zero)):=hr;have ap:(j:Int)<(kn:Int):=by omega
        obtain ⟨r,I⟩:∃ r,r=leftOf L (parts (c.kids.getD j CN.zero) (deep+1)):=⟨_,rfl⟩;have aa:Hid (r=leftOf L (parts (c.kids.getD j CN.zero) (deep+1))):=I
        have a0:Hid (leftOf (left - 1) (partsL (c.kids.take (j+1)) (deep+1))=r):=by
         unfold Hid;rw [partsL_take_succ _ _ _ (by rw [a4.out];exact hlt),leftOf_append,a1.out,if_neg (by omega),I]
        have ak:r≤L:=by rw [I];exact leftOf_le Z _
        clear hR hc hr u q I;go_wp2_with fail;refine (H (.agg #[v0,v1,v2,v3]) (c.kids.getD j CN.zero) (deep+1) L wr lo hi O.out (Nat.le_trans G D.out.size) (by omega) Z a8).mono ?_;rintro e w' ⟨rfl,J⟩;have a2:Hid (Below w.heap.size w w'):=D.out.trans (J.mono D.out.size);have F:Hid (BoxC w' w.heap.size (.int .i64 k) (.slice na 0 nc) (.slice ra 0 rc) (.slice (some ⟨b,a7,none⟩) kn kc)):=o.out.below J o.out.lt;rw [← aa.out];clear J;by_cases hneg:r<0
        · have HE:Hid (leftOf left (parts c deep)=-1):=by
           unfold Hid;rw [HG.out,partsL_take_drop _ (j+1),leftOf_append,a0.out,if_pos hneg]
          go_wp2_with fail;go_ret;exact ⟨ri HE.out.symm,a2.out⟩
        go_wp2_with fail;go_roundw
        case rel=>exact ⟨j+1,r,by omega,by go_num,rfl,by omega,by omega,a0.out,a2.out,F.out⟩
        case measure=>simp [intOf];omega
      have HE:Hid (L=leftOf left (parts c deep)):=by
       unfold Hid;rw [HG.out,← a1.out,List.take_of_length_le (by rw [a4.out];omega)]
      clear u q;go_wp2_with fail;go_ret;exact ⟨ri HE.out,D.out⟩
   have af:(0:Int)<(rn:Int):=by omega
   have HY:Hid (roleFit c=false):=by unfold Hid;rw [M.out];simpa using r0
   go_wp2_with fail;go_ret;exact ⟨ri (A.out (.inr HY.out)).symm,z.out⟩
 have aq:(0:Int)<(nn:Int):=by omega
 have HX:Hid (nameFit c=false):=by unfold Hid;rw [T.out];simpa using n0
 go_wp2_with fail;go_ret;exact ⟨ri (A.out (.inl HX.out)).symm,z.out⟩
theorem okC_any:∀ d,OkC d
 | 0=>fun _ _ _ _ _ _ _ h=>h.elim
 | d+1=>fun v c deep left w lo hi h G ah h0 ai=>by
  by_cases hbad:left=0∨deep=7∨c.kind<0∨7<c.kind∨((c.kids.length:Nat):Int)≠kidS c.kind
  · exact l2ok_bad h ah h0 ai hbad
  exact l2ok_good (okC_any d) h G (by omega) (by omega) ai (by omega) (by omega) (by omega)
set_option maxHeartbeats 400000 in
theorem specConOk_any {d:Nat} {v:Value} {c:CN} {w:World} {lo hi:Nat} (h:RdC lo hi w d v c) (G:hi≤w.heap.size) :
    Calls Tryz.prog 55 #[v] w fun e w'=>e=.returned (.bool (conOk c))∧Below w.heap.size w w':=by
 cases d with
 | zero=>exact h.elim
 | succ d =>
  have ax:Hid (RdC lo hi w (d+1) v c):=h;obtain ⟨na,nn,nc,ra,rn,rc,ka,kn,kc,rfl,_,_,_⟩:=h;have a5:Below w.heap.size w (w.alloc (.cells #[.int .i64 c.kind,.slice na nn nc,.slice ra rn rc,.slice ka kn kc] 104)):=(Below.refl _ _).alloc (Nat.le_refl _) _;have a6:Hid (Below w.heap.size w (w.alloc (.cells #[.int .i64 c.kind,.slice na nn nc,.slice ra rn rc,.slice ka kn kc] 104))):=a5;have ay:Hid (RdC lo hi (w.alloc (.cells #[.int .i64 c.kind,.slice na nn nc,.slice ra rn rc,.slice ka kn kc] 104)) (d+1) (.agg #[.int .i64 c.kind,.slice na nn nc,.slice ra rn rc,.slice ka kn kc]) c):=ax.out.below a5 G;obtain ⟨r,hr⟩:∃ r,r=leftOf 16 (parts c 1):=⟨_,rfl⟩;have av:Hid (r=leftOf 16 (parts c 1)):=hr;have HC:Hid (conOk c=decide (0≤r)):=by unfold Hid;rw [conOk_left,hr]
  clear a5 hr;go_enter Tryz.func55, Tryz.ntmps55;go_wp2_with fail;refine (okC_any (d+1) _ c 1 16 _ lo hi ay.out (Nat.le_trans G a6.out.size) (by omega) (by omega) (by omega)).mono ?_;rintro e w' ⟨rfl,J⟩;rw [← av.out];have z:Hid (Below w.heap.size w w'):=a6.out.trans (J.mono a6.out.size);clear J;go_wp2_with fail;go_ret;exact ⟨rb HC.out.symm,z.out⟩
end Go.Proofs.YtellcgmabimieaaGreatDoor
