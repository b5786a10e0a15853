/- Several texts in one: ConSpec2, AxSpec, AxSpec2. -/
import Derived.Test.YtnmljalcndfjmaaGreatNG3
import Derived.Test.YtnmljalcndfjmaaGreatNG6
import Derived.Test.YtnmljalcndfjmaaGreatNG1
import Derived.Deep.DeepCutAuto
import Derived.Deep.RegionWith
namespace Go.Proofs.YtnmljalcndfjmaaGreat

section
open Go.RowKit
theorem upOk_nil_of {zs:List Int} (h:zs.length=0):upOk zs=false:=by simp [upOk,longB,h]
theorem lowOk_nil_of {zs:List Int} (h:zs.length=0):lowOk zs=false:=by simp [lowOk,longB,h]
set_option maxRecDepth 100000 in
set_option maxHeartbeats 4000000 in
theorem l2ok_good {d:Nat} (H:OkC d) {v:Value} {c:CN} {deep:Nat} {left:Int} {w:World} {lo hi:Nat} (h:RdC lo hi w (d+1) v c) (J:hi≤w.heap.size) (ai:deep≤6) (h0:1≤left) (aj:left≤16)
    (ap:0≤c.kind) (ao:c.kind≤7) (Z:((c.kids.length:Nat):Int)=kidS c.kind) :
    Calls Tryz.prog 34 #[v,.int .i64 deep,.int .i64 left] w fun e w'=>e=.returned (.int .i64 (leftOf left (parts c deep)))∧Below w.heap.size w w':=by
 obtain ⟨na,nn,nc,ra,rn,rc,ka,kn,kc,rfl,hn,hr,hk⟩:=h;have ah:=hk.len;have am:=hn.len;have ak:=hr.len;have aD:=hk.fits;have aB:=hn.fits;have aA:=hr.fits;have av:((c.kids.length:Nat):Int)=kidN c.kind:=by rw [Z,kidS_kidN ap ao]
 have E:Hid (nameFit c=false∨roleFit c=false→leftOf left (parts c deep)=-1):=fun h=>leftOf_bad c deep left (.inr (.inr (by unfold shapeB;rcases h with h | h <;> simp [h])))
 have T:Hid (nameFit c=true→roleFit c=true→leftOf left (parts c deep)=leftOf (left - 1) (partsL c.kids (deep+1))):=fun a b=>leftOf_good c deep left (by omega) ai (by unfold shapeB;rw [a,b,av];simp)
 have X:Hid (nameFit c=if c.kind=2 then (upOk c.name && !keptB (strOfNums c.name).toList) else decide (c.name.length=0)):=rfl;have R:Hid (roleFit c=if roleB c.kind=true then lowOk c.role else decide (c.role.length=0)):=rfl;obtain ⟨k,an⟩:∃ k,k=c.kind:=⟨_,rfl⟩;rw [← an] at ap ao Z X R ⊢;rw [ah] at Z;have a6:Hid (c.kids.length=kn):=ah;have a7:Below w.heap.size w (w.alloc (.cells #[.int .i64 k,.slice na nn nc,.slice ra rn rc,.slice ka kn kc] 30)):=(Below.refl _ _).alloc (Nat.le_refl _) _;have a8:Hid (Below w.heap.size w (w.alloc (.cells #[.int .i64 k,.slice na nn nc,.slice ra rn rc,.slice ka kn kc] 30))):=a7;have ad:Hid (BoxC (w.alloc (.cells #[.int .i64 k,.slice na nn nc,.slice ra rn rc,.slice ka kn kc] 30)) w.heap.size (.int .i64 k) (.slice na nn nc) (.slice ra rn rc) (.slice ka kn kc)):=BoxC.new w _ _ _ _;have HN:Hid (Rd lo hi w na nn nc c.name):=hn;have HR:Hid (Rd lo hi w ra rn rc c.role):=hr;have HK:Hid (RdL (RdC lo hi w d) lo hi w ka kn kc c.kids):=hk;have aF:(deep:Int)≤6:=by omega
 have d1:decide (left - 1<0)=false:=by simp;omega
 have d2:decide ((6:Int)<(deep:Int))=false:=by simp;omega
 have d3:decide (k<0)=false:=by simp;omega
 have d4:decide (7<k)=false:=by simp;omega
 have b5:((kn:Int) != kidS k)=false:=by simp;omega
 clear hn hr hk an ah a7;rw [am] at X;rw [ak] at R;clear am ak;go_enter Tryz.func34, Tryz.ntmps34;go_wp2_with fail;go_quiet (first | (go_at_call 83;exact Calls.quiet_of_same (l2kids_any _ _)));obtain ⟨W1,ae⟩:∃ W1,W1=(w.alloc (.cells #[.int .i64 k,.slice na nn nc,.slice ra rn rc,.slice ka kn kc] 30)).drewN nq:=⟨_,rfl⟩;rw [← ae];have D:Hid (Below w.heap.size w W1):=by unfold Hid;rw [ae];exact below_drewN a8.out nq
 have G:Hid (BoxC W1 w.heap.size (.int .i64 k) (.slice na nn nc) (.slice ra rn rc) (.slice ka kn kc)):=by unfold Hid;rw [ae];exact ad.out
 clear ae a8 ad d1 d2 d3 d4 b5;obtain ⟨c0,c1,c2,c3⟩:=G.out.cells;by_cases k2:k=2
 · subst k2;have au:kn=0:=by simp [kidS] at Z;omega
   subst au;rw [if_pos rfl] at X;have ac:Hid (roleFit c=decide (rn=0)):=by unfold Hid;rw [R.out];simp [roleB]
   clear R;by_cases n0:nn=0
   · subst n0;have HX:Hid (nameFit c=false):=by unfold Hid;rw [X.out,upOk_nil_of HN.out.len];rfl
     go_wp2_with fail;go_ret;exact ⟨ri (E.out (.inl HX.out)).symm,D.out⟩
   have ar:(0:Int)<(nn:Int):=by omega
   have a5:Hid (Rd lo hi W1 na nn nc c.name):=HN.out.below D.out J;cases hU:upOk c.name
   · have HX:Hid (nameFit c=false):=by unfold Hid;rw [X.out,hU];rfl
     go_wp2_with (first | (go_at_call 84;refine (specUpperOk_any na nn nc c.name _ a5.out).mono ?_;rintro e w' ⟨rfl,hw⟩;rw [hw,hU];clear hw));go_ret;exact ⟨ri (E.out (.inl HX.out)).symm,D.out⟩
   cases aa:keptB (strOfNums c.name).toList
   · have HX:Hid (nameFit c=true):=by unfold Hid;rw [X.out,hU,aa];rfl
     by_cases r0:rn=0
     · subst r0
       have HG:Hid (leftOf left (parts c deep)=left - 1):=by
        unfold Hid;rw [T.out HX.out (by rw [ac.out];rfl),List.eq_nil_of_length_eq_zero a6.out,partsL,leftOf_nil _ (by omega)]
       go_wp2_with (first | (go_at_call 84;refine (specUpperOk_any na nn nc c.name _ a5.out).mono ?_;rintro e w' ⟨rfl,hw⟩;rw [hw,hU];clear hw) | (go_at_call 85;refine (specKept_any na nn nc c.name _ a5.out (Nat.le_trans J D.out.size)).mono ?_;rintro e W2 ⟨rfl,V⟩;rw [aa];have q:Hid (BoxC W2 w.heap.size (.int .i64 2) (.slice na nn nc) (.slice ra 0 rc) (.slice ka 0 kc)):=G.out.below V G.out.lt;have F:Hid (Below w.heap.size w W2):=D.out.trans (V.mono D.out.size);clear V c0 c1 c2 c3;obtain ⟨c0,c1,c2,c3⟩:=q.out.cells));refine wp_loop_rounds 1 ?_;rw [rounds_succ];go_wp2_with fail;go_ret;exact ⟨ri HG.out.symm,F.out⟩
     have ag:(0:Int)<(rn:Int):=by omega
     have HY:Hid (roleFit c=false):=by unfold Hid;rw [ac.out];simpa using r0
     go_wp2_with (first | (go_at_call 84;refine (specUpperOk_any na nn nc c.name _ a5.out).mono ?_;rintro e w' ⟨rfl,hw⟩;rw [hw,hU];clear hw) | (go_at_call 85;refine (specKept_any na nn nc c.name _ a5.out (Nat.le_trans J D.out.size)).mono ?_;rintro e W2 ⟨rfl,V⟩;rw [aa];have q:Hid (BoxC W2 w.heap.size (.int .i64 2) (.slice na nn nc) (.slice ra rn rc) (.slice ka 0 kc)):=G.out.below V G.out.lt;have F:Hid (Below w.heap.size w W2):=D.out.trans (V.mono D.out.size);clear V c0 c1 c2 c3;obtain ⟨c0,c1,c2,c3⟩:=q.out.cells));go_ret;exact ⟨ri (E.out (.inr HY.out)).symm,F.out⟩
   have HX:Hid (nameFit c=false):=by unfold Hid;rw [X.out,hU,aa];rfl
   go_wp2_with (first | (go_at_call 84;refine (specUpperOk_any na nn nc c.name _ a5.out).mono ?_;rintro e w' ⟨rfl,hw⟩;rw [hw,hU];clear hw) | (go_at_call 85;refine (specKept_any na nn nc c.name _ a5.out (Nat.le_trans J D.out.size)).mono ?_;rintro e W2 ⟨rfl,V⟩;rw [aa];have F:Hid (Below w.heap.size w W2):=D.out.trans (V.mono D.out.size);clear V));go_ret;exact ⟨ri (E.out (.inl HX.out)).symm,F.out⟩
 rw [if_neg k2] at X;have aE:(k == 2)=false:=by simpa using k2
 by_cases n0:nn=0
 · subst n0;have HX:Hid (nameFit c=true):=by unfold Hid;rw [X.out];rfl
   have af:Hid (Rd lo hi W1 ra rn rc c.role):=HR.out.below D.out J;by_cases m:k=6∨k=7
   · rw [if_pos (show roleB k=true from by unfold roleB;simp;exact m)] at R
     have hm:(k == 6)=true∨((k == 6)=false∧(k == 7)=true):=by
      rcases m with h | h
      · exact .inl (by simp [h])
      exact .inr ⟨by simp [h],by simp [h]⟩
     rcases hm with hm | ⟨hm,aC⟩
     · by_cases r0:rn=0
       · subst r0;have HY:Hid (roleFit c=false):=by unfold Hid;rw [R.out,lowOk_nil_of HR.out.len]
         go_wp2_with fail;go_ret;exact ⟨ri (E.out (.inr HY.out)).symm,D.out⟩
       have ag:(0:Int)<(rn:Int):=by omega
       cases Y:lowOk c.role
       · have HY:Hid (roleFit c=false):=by unfold Hid;rw [R.out,Y]
         go_wp2_with (first | (go_at_call 18;refine (specLowerOk_any ra rn rc c.role _ af.out).mono ?_;rintro e w' ⟨rfl,hw⟩;rw [hw,Y];clear hw));go_ret;exact ⟨ri (E.out (.inr HY.out)).symm,D.out⟩
       have HG:Hid (leftOf left (parts c deep)=leftOf (left - 1) (partsL c.kids (deep+1))):=T.out HX.out (by rw [R.out,Y]);go_wp2_with (first | (go_at_call 18;refine (specLowerOk_any ra rn rc c.role _ af.out).mono ?_;rintro e w' ⟨rfl,hw⟩;rw [hw,Y];clear hw));go_loopw [2,8] (fun l i wr=>∃ (j:Nat) (L:Int),j≤kn∧i=.int .i64 j∧l=.int .i64 L∧0≤L∧L≤16∧leftOf (left - 1) (partsL (c.kids.take j) (deep+1))=L∧Below w.heap.size w wr∧BoxC wr w.heap.size (.int .i64 k) (.slice na 0 nc) (.slice ra rn rc) (.slice ka kn kc)) (fun _ i _=>kn - (intOf i).toNat)
       case atStart=>exact ⟨0,left - 1,Nat.zero_le _,rfl,rfl,by omega,by omega,by simp [partsL,leftOf_nil _ (show 0≤left - 1 by omega)],D.out,G.out⟩
       case round =>
        obtain ⟨j,L,hj,rfl,rfl,a1,a9,a0,A,y⟩:=hrel;obtain ⟨q0,q1,q2,q3⟩:=y.cells;have F:Hid (Below w.heap.size w wr):=A;have a3:Hid (leftOf (left - 1) (partsL (c.kids.take j) (deep+1))=L):=a0;have q:Hid (BoxC wr w.heap.size (.int .i64 k) (.slice na 0 nc) (.slice ra rn rc) (.slice ka kn kc)):=y;clear a0;by_cases hlt:j<kn
        · have hR:=HK.out.same (Same.of_below A J);rcases hR.cells with hz | ⟨b,off,e1,_,_,hc⟩
          · omega
          subst e1;obtain ⟨v0,v1,v2,v3,c0,c1,c2,c3,hr⟩:=hc j hlt;have U:Hid (RdC lo hi wr d (.agg #[v0,v1,v2,v3]) (c.kids.getD j CN.zero)):=hr;have aq:(j:Int)<(kn:Int):=by omega
          obtain ⟨r,N⟩:∃ r,r=leftOf L (parts (c.kids.getD j CN.zero) (deep+1)):=⟨_,rfl⟩;have ab:Hid (r=leftOf L (parts (c.kids.getD j CN.zero) (deep+1))):=N
          have a2:Hid (leftOf (left - 1) (partsL (c.kids.take (j+1)) (deep+1))=r):=by
           unfold Hid;rw [partsL_take_succ _ _ _ (by rw [a6.out];exact hlt),leftOf_append,a3.out,if_neg (by omega),N]
          have al:r≤L:=by rw [N];exact leftOf_le a1 _
          clear hR hc hr A y N;go_wp2_with fail;refine (H (.agg #[v0,v1,v2,v3]) (c.kids.getD j CN.zero) (deep+1) L wr lo hi U.out (Nat.le_trans J F.out.size) (by omega) a1 a9).mono ?_;rintro e w' ⟨rfl,O⟩;have a4:Hid (Below w.heap.size w w'):=F.out.trans (O.mono F.out.size);have I:Hid (BoxC w' w.heap.size (.int .i64 k) (.slice na 0 nc) (.slice ra rn rc) (.slice (some ⟨b,off,none⟩) kn kc)):=q.out.below O q.out.lt;rw [← ab.out];clear O;by_cases hneg:r<0
          · have HE:Hid (leftOf left (parts c deep)=-1):=by
             unfold Hid;rw [HG.out,partsL_take_drop _ (j+1),leftOf_append,a2.out,if_pos hneg]
            go_wp2_with fail;go_ret;exact ⟨ri HE.out.symm,a4.out⟩
          go_wp2_with fail;go_roundw
          case rel=>exact ⟨j+1,r,by omega,by go_num,rfl,by omega,by omega,a2.out,a4.out,I.out⟩
          case measure=>simp [intOf];omega
        have HE:Hid (L=leftOf left (parts c deep)):=by
         unfold Hid;rw [HG.out,← a3.out,List.take_of_length_le (by rw [a6.out];omega)]
        clear A y;go_wp2_with fail;go_ret;exact ⟨ri HE.out,F.out⟩
     by_cases r0:rn=0
     · subst r0;have HY:Hid (roleFit c=false):=by unfold Hid;rw [R.out,lowOk_nil_of HR.out.len]
       go_wp2_with fail;go_ret;exact ⟨ri (E.out (.inr HY.out)).symm,D.out⟩
     have ag:(0:Int)<(rn:Int):=by omega
     cases Y:lowOk c.role
     · have HY:Hid (roleFit c=false):=by unfold Hid;rw [R.out,Y]
       go_wp2_with (first | (go_at_call 18;refine (specLowerOk_any ra rn rc c.role _ af.out).mono ?_;rintro e w' ⟨rfl,hw⟩;rw [hw,Y];clear hw));go_ret;exact ⟨ri (E.out (.inr HY.out)).symm,D.out⟩
     have HG:Hid (leftOf left (parts c deep)=leftOf (left - 1) (partsL c.kids (deep+1))):=T.out HX.out (by rw [R.out,Y]);go_wp2_with (first | (go_at_call 18;refine (specLowerOk_any ra rn rc c.role _ af.out).mono ?_;rintro e w' ⟨rfl,hw⟩;rw [hw,Y];clear hw));go_loopw [2,8] (fun l i wr=>∃ (j:Nat) (L:Int),j≤kn∧i=.int .i64 j∧l=.int .i64 L∧0≤L∧L≤16∧leftOf (left - 1) (partsL (c.kids.take j) (deep+1))=L∧Below w.heap.size w wr∧BoxC wr w.heap.size (.int .i64 k) (.slice na 0 nc) (.slice ra rn rc) (.slice ka kn kc)) (fun _ i _=>kn - (intOf i).toNat)
     case atStart=>exact ⟨0,left - 1,Nat.zero_le _,rfl,rfl,by omega,by omega,by simp [partsL,leftOf_nil _ (show 0≤left - 1 by omega)],D.out,G.out⟩
     case round =>
      obtain ⟨j,L,hj,rfl,rfl,a1,a9,a0,A,y⟩:=hrel;obtain ⟨q0,q1,q2,q3⟩:=y.cells;have F:Hid (Below w.heap.size w wr):=A;have a3:Hid (leftOf (left - 1) (partsL (c.kids.take j) (deep+1))=L):=a0;have q:Hid (BoxC wr w.heap.size (.int .i64 k) (.slice na 0 nc) (.slice ra rn rc) (.slice ka kn kc)):=y;clear a0;by_cases hlt:j<kn
      · have hR:=HK.out.same (Same.of_below A J);rcases hR.cells with hz | ⟨b,off,e1,_,_,hc⟩
        · omega
        subst e1;obtain ⟨v0,v1,v2,v3,c0,c1,c2,c3,hr⟩:=hc j hlt;have U:Hid (RdC lo hi wr d (.agg #[v0,v1,v2,v3]) (c.kids.getD j CN.zero)):=hr;have aq:(j:Int)<(kn:Int):=by omega
        obtain ⟨r,N⟩:∃ r,r=leftOf L (parts (c.kids.getD j CN.zero) (deep+1)):=⟨_,rfl⟩;have ab:Hid (r=leftOf L (parts (c.kids.getD j CN.zero) (deep+1))):=N
        have a2:Hid (leftOf (left - 1) (partsL (c.kids.take (j+1)) (deep+1))=r):=by
         unfold Hid;rw [partsL_take_succ _ _ _ (by rw [a6.out];exact hlt),leftOf_append,a3.out,if_neg (by omega),N]
        have al:r≤L:=by rw [N];exact leftOf_le a1 _
        clear hR hc hr A y N;go_wp2_with fail;refine (H (.agg #[v0,v1,v2,v3]) (c.kids.getD j CN.zero) (deep+1) L wr lo hi U.out (Nat.le_trans J F.out.size) (by omega) a1 a9).mono ?_;rintro e w' ⟨rfl,O⟩;have a4:Hid (Below w.heap.size w w'):=F.out.trans (O.mono F.out.size);have I:Hid (BoxC w' w.heap.size (.int .i64 k) (.slice na 0 nc) (.slice ra rn rc) (.slice (some ⟨b,off,none⟩) kn kc)):=q.out.below O q.out.lt;rw [← ab.out];clear O;by_cases hneg:r<0
        · have HE:Hid (leftOf left (parts c deep)=-1):=by
           unfold Hid;rw [HG.out,partsL_take_drop _ (j+1),leftOf_append,a2.out,if_pos hneg]
          go_wp2_with fail;go_ret;exact ⟨ri HE.out.symm,a4.out⟩
        go_wp2_with fail;go_roundw
        case rel=>exact ⟨j+1,r,by omega,by go_num,rfl,by omega,by omega,a2.out,a4.out,I.out⟩
        case measure=>simp [intOf];omega
      have HE:Hid (L=leftOf left (parts c deep)):=by
       unfold Hid;rw [HG.out,← a3.out,List.take_of_length_le (by rw [a6.out];omega)]
      clear A y;go_wp2_with fail;go_ret;exact ⟨ri HE.out,F.out⟩
   rw [if_neg (show ¬ roleB k=true from by unfold roleB;simp;omega)] at R;have m6:(k == 6)=false:=by simp;omega
   have m7:(k == 7)=false:=by simp;omega
   by_cases r0:rn=0
   · subst r0;have HG:Hid (leftOf left (parts c deep)=leftOf (left - 1) (partsL c.kids (deep+1))):=T.out HX.out (by rw [R.out];rfl);go_wp2_with fail;go_loopw [2,8] (fun l i wr=>∃ (j:Nat) (L:Int),j≤kn∧i=.int .i64 j∧l=.int .i64 L∧0≤L∧L≤16∧leftOf (left - 1) (partsL (c.kids.take j) (deep+1))=L∧Below w.heap.size w wr∧BoxC wr w.heap.size (.int .i64 k) (.slice na 0 nc) (.slice ra 0 rc) (.slice ka kn kc)) (fun _ i _=>kn - (intOf i).toNat)
     case atStart=>exact ⟨0,left - 1,Nat.zero_le _,rfl,rfl,by omega,by omega,by simp [partsL,leftOf_nil _ (show 0≤left - 1 by omega)],D.out,G.out⟩
     case round =>
      obtain ⟨j,L,hj,rfl,rfl,a1,a9,a0,A,y⟩:=hrel;obtain ⟨q0,q1,q2,q3⟩:=y.cells;have F:Hid (Below w.heap.size w wr):=A;have a3:Hid (leftOf (left - 1) (partsL (c.kids.take j) (deep+1))=L):=a0;have q:Hid (BoxC wr w.heap.size (.int .i64 k) (.slice na 0 nc) (.slice ra 0 rc) (.slice ka kn kc)):=y;clear a0;by_cases hlt:j<kn
      · have hR:=HK.out.same (Same.of_below A J);rcases hR.cells with hz | ⟨b,off,e1,_,_,hc⟩
        · omega
        subst e1;obtain ⟨v0,v1,v2,v3,c0,c1,c2,c3,hr⟩:=hc j hlt;have U:Hid (RdC lo hi wr d (.agg #[v0,v1,v2,v3]) (c.kids.getD j CN.zero)):=hr;have aq:(j:Int)<(kn:Int):=by omega
        obtain ⟨r,N⟩:∃ r,r=leftOf L (parts (c.kids.getD j CN.zero) (deep+1)):=⟨_,rfl⟩;have ab:Hid (r=leftOf L (parts (c.kids.getD j CN.zero) (deep+1))):=N
        have a2:Hid (leftOf (left - 1) (partsL (c.kids.take (j+1)) (deep+1))=r):=by
         unfold Hid;rw [partsL_take_succ _ _ _ (by rw [a6.out];exact hlt),leftOf_append,a3.out,if_neg (by omega),N]
        have al:r≤L:=by rw [N];exact leftOf_le a1 _
        clear hR hc hr A y N;go_wp2_with fail;refine (H (.agg #[v0,v1,v2,v3]) (c.kids.getD j CN.zero) (deep+1) L wr lo hi U.out (Nat.le_trans J F.out.size) (by omega) a1 a9).mono ?_;rintro e w' ⟨rfl,O⟩;have a4:Hid (Below w.heap.size w w'):=F.out.trans (O.mono F.out.size);have I:Hid (BoxC w' w.heap.size (.int .i64 k) (.slice na 0 nc) (.slice ra 0 rc) (.slice (some ⟨b,off,none⟩) kn kc)):=q.out.below O q.out.lt;rw [← ab.out];clear O;by_cases hneg:r<0
        · have HE:Hid (leftOf left (parts c deep)=-1):=by
           unfold Hid;rw [HG.out,partsL_take_drop _ (j+1),leftOf_append,a2.out,if_pos hneg]
          go_wp2_with fail;go_ret;exact ⟨ri HE.out.symm,a4.out⟩
        go_wp2_with fail;go_roundw
        case rel=>exact ⟨j+1,r,by omega,by go_num,rfl,by omega,by omega,a2.out,a4.out,I.out⟩
        case measure=>simp [intOf];omega
      have HE:Hid (L=leftOf left (parts c deep)):=by
       unfold Hid;rw [HG.out,← a3.out,List.take_of_length_le (by rw [a6.out];omega)]
      clear A y;go_wp2_with fail;go_ret;exact ⟨ri HE.out,F.out⟩
   have ag:(0:Int)<(rn:Int):=by omega
   have HY:Hid (roleFit c=false):=by unfold Hid;rw [R.out];simpa using r0
   go_wp2_with fail;go_ret;exact ⟨ri (E.out (.inr HY.out)).symm,D.out⟩
 have ar:(0:Int)<(nn:Int):=by omega
 have HX:Hid (nameFit c=false):=by unfold Hid;rw [X.out];simpa using n0
 go_wp2_with fail;go_ret;exact ⟨ri (E.out (.inl HX.out)).symm,D.out⟩
theorem okC_any:∀ d,OkC d
 | 0=>fun _ _ _ _ _ _ _ h=>h.elim
 | d+1=>fun v c deep left w lo hi h J ai h0 aj=>by
  by_cases hbad:left=0∨deep=7∨c.kind<0∨7<c.kind∨((c.kids.length:Nat):Int)≠kidS c.kind
  · exact l2ok_bad h ai h0 aj hbad
  exact l2ok_good (okC_any d) h J (by omega) (by omega) aj (by omega) (by omega) (by omega)
set_option maxHeartbeats 400000 in
theorem specConOk_any {d:Nat} {v:Value} {c:CN} {w:World} {lo hi:Nat} (h:RdC lo hi w d v c) (J:hi≤w.heap.size) :
    Calls Tryz.prog 9 #[v] w fun e w'=>e=.returned (.bool (conOk c))∧Below w.heap.size w w':=by
 cases d with
 | zero=>exact h.elim
 | succ d =>
  have ay:Hid (RdC lo hi w (d+1) v c):=h;obtain ⟨na,nn,nc,ra,rn,rc,ka,kn,kc,rfl,_,_,_⟩:=h;have a7:Below w.heap.size w (w.alloc (.cells #[.int .i64 c.kind,.slice na nn nc,.slice ra rn rc,.slice ka kn kc] 30)):=(Below.refl _ _).alloc (Nat.le_refl _) _;have a8:Hid (Below w.heap.size w (w.alloc (.cells #[.int .i64 c.kind,.slice na nn nc,.slice ra rn rc,.slice ka kn kc] 30))):=a7;have az:Hid (RdC lo hi (w.alloc (.cells #[.int .i64 c.kind,.slice na nn nc,.slice ra rn rc,.slice ka kn kc] 30)) (d+1) (.agg #[.int .i64 c.kind,.slice na nn nc,.slice ra rn rc,.slice ka kn kc]) c):=ay.out.below a7 J;obtain ⟨r,hr⟩:∃ r,r=leftOf 16 (parts c 1):=⟨_,rfl⟩;have ax:Hid (r=leftOf 16 (parts c 1)):=hr;have HC:Hid (conOk c=decide (0≤r)):=by unfold Hid;rw [conOk_left,hr]
  clear a7 hr;go_enter Tryz.func9, Tryz.ntmps9;go_wp2_with fail;refine (okC_any (d+1) _ c 1 16 _ lo hi az.out (Nat.le_trans J a8.out.size) (by omega) (by omega) (by omega)).mono ?_;rintro e w' ⟨rfl,O⟩;rw [← ax.out];have D:Hid (Below w.heap.size w w'):=a8.out.trans (O.mono a8.out.size);clear O;go_wp2_with fail;go_ret;exact ⟨rb HC.out.symm,D.out⟩
end

section
open Go.RowKit
theorem zeroB_of {c:CN} {k:Int} {nn rn kn:Nat} (hk:k=c.kind) (h1:c.name.length=nn) (h2:c.role.length=rn) (h3:c.kids.length=kn):zeroB c=(decide (k=0) && (decide (nn=0) && (decide (rn=0) && decide (kn=0)))):=by
 unfold zeroB;rw [← hk,h1,h2,h3]
set_option maxRecDepth 100000 in
set_option maxHeartbeats 1000000 in
theorem l3zero_any {d:Nat} {v:Value} {c:CN} {w:World} {lo hi:Nat} (h:RdC lo hi w d v c) :
    Calls Tryz.prog 109 #[v] w fun e w'=>e=.returned (.bool (zeroB c))∧Below w.heap.size w w':=by
 cases d with
 | zero=>exact h.elim
 | succ d =>
  obtain ⟨na,nn,nc,ra,rn,rc,ka,kn,kc,rfl,hn,hr,q⟩:=h;obtain ⟨k,hk⟩:∃ k,k=c.kind:=⟨_,rfl⟩;rw [← hk];have HZ:Hid (zeroB c=(decide (k=0) && (decide (nn=0) && (decide (rn=0) && decide (kn=0))))):=zeroB_of hk hn.len hr.len q.len;have HB:Hid (Below w.heap.size w (w.alloc (.cells #[.int .i64 k,.slice na nn nc,.slice ra rn rc,.slice ka kn kc] 30))):=(Below.refl _ _).alloc (Nat.le_refl _) _;clear hk hn hr q;by_cases h0:k=0
  · have b0:(k == 0)=true:=by simpa using h0
    by_cases h1:nn=0
    · have b1:((nn:Int) == 0)=true:=by simp;omega
      by_cases h2:rn=0
      · have b2:((rn:Int) == 0)=true:=by simp;omega
        by_cases h3:kn=0
        · have b3:((kn:Int) == 0)=true:=by simp;omega
          have HE:Hid (zeroB c=true):=by unfold Hid;rw [HZ.out];simp [h0,h1,h2,h3]
          clear h0 h1 h2 h3;go_enter Tryz.func109, Tryz.ntmps109;go_wp2_with fail;go_ret;exact ⟨rb HE.out.symm,HB.out⟩
        have b3:((kn:Int) == 0)=false:=by simp;omega
        have HE:Hid (zeroB c=false):=by unfold Hid;rw [HZ.out];simp [h3]
        clear h0 h1 h2 h3;go_enter Tryz.func109, Tryz.ntmps109;go_wp2_with fail;go_ret;exact ⟨rb HE.out.symm,HB.out⟩
      have b2:((rn:Int) == 0)=false:=by simp;omega
      have HE:Hid (zeroB c=false):=by unfold Hid;rw [HZ.out];simp [h2]
      clear h0 h1 h2;go_enter Tryz.func109, Tryz.ntmps109;go_wp2_with fail;go_ret;exact ⟨rb HE.out.symm,HB.out⟩
    have b1:((nn:Int) == 0)=false:=by simp;omega
    have HE:Hid (zeroB c=false):=by unfold Hid;rw [HZ.out];simp [h1]
    clear h0 h1;go_enter Tryz.func109, Tryz.ntmps109;go_wp2_with fail;go_ret;exact ⟨rb HE.out.symm,HB.out⟩
  have b0:(k == 0)=false:=by simpa using h0
  have HE:Hid (zeroB c=false):=by unfold Hid;rw [HZ.out];simp [h0]
  clear h0;go_enter Tryz.func109, Tryz.ntmps109;go_wp2_with fail;go_ret;exact ⟨rb HE.out.symm,HB.out⟩
end

section
open Go.RowKit
set_option linter.unusedVariables false
theorem byP {P:Prop} (p:Prop) [Decidable p] (h1:p→P) (h0:¬ p→P):P:=if h:p then h1 h else h0 h
theorem byB {P:Prop} (b:Bool) (h0:b=false→P) (h1:b=true→P):P:=by cases h:b;exact h0 h;exact h1 h
theorem byN {P:Prop} (n:Nat) (h0:n=0→P) (h1:¬ n=0→(0:Int)<(n:Int)→P):P:=if h:n=0 then h0 h else h1 h (by omega)
theorem byL {P:Prop} (n:Nat) (b:Bool) (q:n=0→b=false) (h0:n=0→b=false→P) (h1:(0:Int)<(n:Int)→b=false→P) (h2:(0:Int)<(n:Int)→b=true→P):P:=by
 by_cases h:n=0
 · exact h0 h (q h)
 cases hb:b
 · exact h1 (by omega) hb
 exact h2 (by omega) hb
theorem bySix {P:Prop} {k:Int} (a:¬ k<0) (b:¬ 5<k) (h2:k=0∨k=1∨k=2→P) (h3:k=3→P) (h4:k=4→P) (h5:k=5→P):P:=by
 by_cases h:k≤2
 · exact h2 (by omega)
 by_cases e:k=3
 · exact h3 e
 by_cases e:k=4
 · exact h4 e
 exact h5 (by omega)
set_option maxRecDepth 100000 in
set_option maxHeartbeats 40000000 in
theorem specAxiomOk_any {dp:Nat} {c0 c1 c2 c3 d0 d1 d2 d3:Value} {ra:Option Addr} {rn rc:Nat} {sa:Option Addr} {sn sc:Nat} {aa:Option Addr} {an ac:Nat} {ba:Option Addr} {bn bc:Nat} {x:AX} {w:World} {lo hi:Nat} (h:RdA lo hi w dp c0 c1 c2 c3 d0 d1 d2 d3 ra rn rc sa sn sc aa an ac ba bn bc x) (V:hi≤w.heap.size) (k:Int) (hk:k=x.kind):Calls Tryz.prog 52 #[.agg #[.int .i64 k,c0,c1,c2,c3,d0,d1,d2,d3,.slice ra rn rc,.slice sa sn sc,.slice aa an ac,.slice ba bn bc]] w fun e w'=>e=.returned (.bool (axOk x))∧Below w.heap.size w w':=by
 obtain ⟨W0,I⟩:∃ W0,W0=w.alloc (.cells #[.int .i64 k,c0,c1,c2,c3,d0,d1,d2,d3,.slice ra rn rc,.slice sa sn sc,.slice aa an ac,.slice ba bn bc] 49):=⟨_,rfl⟩;have ah:Hid (W0=w.alloc (.cells #[.int .i64 k,c0,c1,c2,c3,d0,d1,d2,d3,.slice ra rn rc,.slice sa sn sc,.slice aa an ac,.slice ba bn bc] 49)):=I;have G:Below w.heap.size w W0:=by rw [I];exact (Below.refl _ _).alloc (Nat.le_refl _) _
 have ad:Hid (Below w.heap.size w W0):=G;have ag:w.heap.size<W0.heap.size:=by rw [I];simp
 have X:BoxA 49 W0 w.heap.size k c0 c1 c2 c3 d0 d1 d2 d3 (.slice ra rn rc) (.slice sa sn sc) (.slice aa an ac) (.slice ba bn bc):=by rw [I];exact BoxA.new _ w _ _ _ _ _ _ _ _ _ _ _ _ _
 have ai:Hid (∀ W,Below W0.heap.size W0 W→BoxA 49 W w.heap.size k c0 c1 c2 c3 d0 d1 d2 d3 (.slice ra rn rc) (.slice sa sn sc) (.slice aa an ac) (.slice ba bn bc)):=fun W hW=>X.below hW ag
 obtain ⟨z0,z1,z2,z3,z4,z5,z6,z7,z8,z9,a2,a1,a0⟩:=X.cells;have HR:Hid (∀ W,Below W0.heap.size W0 W→RdA lo hi W dp c0 c1 c2 c3 d0 d1 d2 d3 ra rn rc sa sn sc aa an ac ba bn bc x):=fun W hW=>(h.below G V).below hW (Nat.le_trans V G.size)
 have a9:hi≤W0.heap.size:=Nat.le_trans V G.size;have HV:Hid (Below W0.heap.size W0 W0):=Below.refl _ _;have a6:=h.r.len;have a5:=h.s.len;have a8:=h.a.len;have a7:=h.b.len;have y:∀ {zs:List Int} {n:Nat},zs.length=n→n=0→lowOk zs=false:=fun {zs} {n} hl hz=>by cases e:lowOk zs;rfl;have:=(longB_of_low e).1;omega
 have R:=y a6;have a3:=y a5;have T:=y a8;have a4:=y a7;have af:conOk x.c=false→zeroB x.c=false:=fun e=>by cases hz:zeroB x.c;rfl;rw [ok_of_zero hz] at e;exact e
 have ae:conOk x.d=false→zeroB x.d=false:=fun e=>by cases hz:zeroB x.d;rfl;rw [ok_of_zero hz] at e;exact e
 have U:=hk.symm;clear hk y h G I X;refine byP (k<0) (fun h0=>?_) (fun h0=>byP (5<k) (fun h5=>?_) (fun h5=>byB (conOk x.c) (fun hC=>?_) (fun hC=>byB (conOk x.d) (fun hD=>?_) (fun hD=>bySix h0 h5 (fun e3=>byN rn (fun hr=>byN sn (fun hs=>byN an (fun ha=>byN bn (fun hb=>?_) (fun hb O=>?_)) (fun ha H=>?_)) (fun hs N=>?_)) (fun hr F=>?_)) (fun e=>byB (zeroB x.d) (fun A=>?_) (fun A=>byB (zeroB x.c) (fun J=>?_) (fun J=>byL rn (lowOk x.r) R (fun hr D=>?_) (fun F D=>?_) (fun F D=>byL sn (lowOk x.s) a3 (fun hs Y=>?_) (fun N Y=>?_) (fun N Y=>byN an (fun ha=>byN bn (fun hb=>?_) (fun hb O=>?_)) (fun ha H=>?_)))))) (fun e=>byB (zeroB x.d) (fun A=>?_) (fun A=>byN rn (fun hr=>byN sn (fun hs=>byL an (lowOk x.a) T (fun ha E=>?_) (fun H E=>?_) (fun H E=>byN bn (fun hb=>?_) (fun hb O=>?_))) (fun hs N=>?_)) (fun hr F=>?_))) (fun e=>byB (zeroB x.d) (fun A=>?_) (fun A=>byB (zeroB x.c) (fun J=>?_) (fun J=>byL rn (lowOk x.r) R (fun hr D=>?_) (fun F D=>?_) (fun F D=>byN sn (fun hs=>byL an (lowOk x.a) T (fun ha E=>?_) (fun H E=>?_) (fun H E=>byL bn (lowOk x.b) a4 (fun hb Z=>?_) (fun O Z=>?_) (fun O Z=>?_))) (fun hs N=>?_)))))))))
 all_goals
  (try subst hr);(try subst hs);(try subst ha);(try subst hb);(try subst e)
  (first | (have HE:Hid (axOk x=true):=(by first | (unfold Hid axOk fitC fitL wantC wantD wantR wantS wantA wantB;rw [U];(first | (rcases e3 with rfl | rfl | rfl <;> (simp [*];done)) | (simp [*];done))) | fail)) | (have HE:Hid (axOk x=false):=(by first | (unfold Hid axOk fitC fitL wantC wantD wantR wantS wantA wantB;rw [U];(first | (rcases e3 with rfl | rfl | rfl <;> (simp [*];done)) | (simp [*];done) | (rw [decide_eq_false (by omega)];rfl))) | fail)))
  clear U a6 a5 a8 a7 R a3 T a4 af ae;(try (have aj:k≤2:=(by omega);have b3:(k == 3)=false:=(by simp;omega);have b4:(k == 4)=false:=(by simp;omega);have b5:(k == 5)=false:=(by simp;omega);clear e3));go_enter Tryz.func52, Tryz.ntmps52;go_upto_region 1 with fail;rw [← ah.out];go_wp2_with ((first | (go_at_call_of 9 c0;refine (specConOk_any (HR.out _ HV.out).c (Nat.le_trans a9 HV.out.size)).mono ?_) | (go_at_call_of 9 d0;refine (specConOk_any (HR.out _ HV.out).d (Nat.le_trans a9 HV.out.size)).mono ?_) | (go_at_call_of 109 d0;refine (l3zero_any (HR.out _ HV.out).d).mono ?_) | (go_at_call_of 109 c0;refine (l3zero_any (HR.out _ HV.out).c).mono ?_) | (go_at_call_of 18 ra;refine (specLowerOk_any ra rn rc x.r _ (lo:=lo) (hi:=hi) (HR.out _ HV.out).r).mono ?_) | (go_at_call_of 18 sa;refine (specLowerOk_any sa sn sc x.s _ (lo:=lo) (hi:=hi) (HR.out _ HV.out).s).mono ?_) | (go_at_call_of 18 aa;refine (specLowerOk_any aa an ac x.a _ (lo:=lo) (hi:=hi) (HR.out _ HV.out).a).mono ?_) | (go_at_call_of 18 ba;refine (specLowerOk_any ba bn bc x.b _ (lo:=lo) (hi:=hi) (HR.out _ HV.out).b).mono ?_));rintro e V' ⟨rfl,hb⟩;(first | rw [hC] | rw [hD] | rw [A] | rw [J] | rw [D] | rw [Y] | rw [E] | rw [Z]);have ab:Hid (Below W0.heap.size W0 V'):=(by first | exact HV.out.trans (hb.mono HV.out.size) | exact hb ▸ HV.out);clear hb HV z0 z1 z2 z3 z4 z5 z6 z7 z8 z9 a2 a1 a0;have HV:=ab;clear ab;obtain ⟨z0,z1,z2,z3,z4,z5,z6,z7,z8,z9,a2,a1,a0⟩:=(ai.out _ HV.out).cells);go_ret;exact ⟨rb HE.out.symm,ad.out.trans (HV.out.mono ad.out.size)⟩
end

end Go.Proofs.YtnmljalcndfjmaaGreat
