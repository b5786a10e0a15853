/- The model's parser of a concept where all is well, and no role is there. -/
import Derived.Test.YtnmljalcndfjmaaGreatNG20
import Derived.Deep.RegionHeldLaw
import Derived.Deep.AppendLies
import Derived.Maps.AppendAt
import Derived.Deep.QuietTactic
import Derived.BigQuiet
namespace Go.Proofs.YtnmljalcndfjmaaGreat
open Go.RowKit
set_option linter.unusedVariables false
def PlainT (ts:List Tok):Prop:=∀ q,isI ts 1 q=true→roleB (kindI ts q)=false∧(kindI ts q=2∨kidN (kindI ts q)≠0)
def ConG (f:Nat):Prop:=∀ (dp:Int),1≤dp→dp+(f:Int)=7→∀ (base pb g i:Nat) (ts:List Tok) (gs:List (Nat × Nat)) (en:Int) (w:World),PlainT ts→Tks ts en→PsAt w pb g i ts en (-1)→TkM base pb w g ts gs→i≤ts.length→(∃ c j,conR ts en f i=.ok c j) →
 Calls Tryz.prog 134 #[.pointer (some ⟨pb,0,none⟩),.int .i64 dp] w (SP ts gs en g pb i w f (conR ts en f i))
set_option maxRecDepth 100000 in
set_option maxHeartbeats 2000000 in
theorem con_kidsG (f:Nat) (dp:Int) (aG:1≤dp) (dy:dp≤6) (base pb g i:Nat) (ts:List Tok) (gs:List (Nat × Nat)) (en:Int) (w:World) (hK:Tks ts en) (hP:PsAt w pb g i ts en (-1)) (hT:TkM base pb w g ts gs) (h1:isI ts 1 i=true) (h2:kindI ts i≠2) (h3:kidN (kindI ts i)≠0) (h4:isI ts 3 (i+1)=true) (h5:roleB (kindI ts i)=false) (bK:dp+(f:Int)=6) (H:ConG f) (bh:PlainT ts) (a0:∃ c j,conR ts en (f+1) i=.ok c j) :
    Calls Tryz.prog 134 #[.pointer (some ⟨pb,0,none⟩),.int .i64 dp] w (SP ts gs en g pb i w (f+1) (conR ts en (f+1) i)):=by
 have HC:Hid (conR ts en (f+1) i=closeR ts en (kindI ts i) (roleI ts (kindI ts i) i) (kidsR (conR ts en f) (startI (kindI ts i) i) (kidN (kindI ts i)).toNat)):=conS_kids h1 h2 h3 h4 (.inl h5);have H5:Hid (roleB (kindI ts i)=false):=h5;have HH:Hid (ConG f):=H;have b8:Hid (PlainT ts):=bh;have ca:Hid (∃ c j,conR ts en (f+1) i=.ok c j):=a0;have a8:Hid (TkM base pb w g ts gs):=hT;clear h5 H a0;have H2:Hid (kindI ts i≠2):=h2;have H3:Hid (kidN (kindI ts i)≠0):=h3;clear h2 h3;have aj:=hP.lt;have a7:Below w.heap.size w (w.alloc (.cells #[.int .i64 0,.slice none 0 0,.slice none 0 0,.slice none 0 0] 30)):=(Below.refl _ _).alloc (Nat.le_refl _) _;have au:Hid (Below w.heap.size w (w.alloc (.cells #[.int .i64 0,.slice none 0 0,.slice none 0 0,.slice none 0 0] 30))):=a7;have cN:Hid (PsAt (w.alloc (.cells #[.int .i64 0,.slice none 0 0,.slice none 0 0,.slice none 0 0] 30)) pb g i ts en (-1)):=hP.below a7;have b7:Hid (TkM base pb (w.alloc (.cells #[.int .i64 0,.slice none 0 0,.slice none 0 0,.slice none 0 0] 30)) g ts gs):=hT.below (a7.mono (Nat.le_of_lt aj));have bT:Hid (BoxC (w.alloc (.cells #[.int .i64 0,.slice none 0 0,.slice none 0 0,.slice none 0 0] 30)) w.heap.size (.int .i64 0) (.slice none 0 0) (.slice none 0 0) (.slice none 0 0)):=BoxC.new w _ _ _ _;have HK:Hid (Tks ts en):=hK;clear a7 hP hT hK;have ak:=isI_lt h1;have aD:1≤(wordI ts i).length:=HK.out.wd i (.inl h1);have cj:(wordI ts i).length≤6:=HK.out.sh i;obtain ⟨dj,tc,hx,_,_,_⟩:=b7.out.word ak;obtain ⟨tg,bz⟩:∃ tg,tg=(gs.getD i (0,0)).1:=⟨_,rfl⟩
 have az:(ts.getD i Tok.zero).text≠[]:=fun e=>by rw [show wordI ts i=[] from e] at aD;simp at aD
 have aV:=txv_cons (t:=ts.getD i Tok.zero) (gs.getD i (0,0)) az;rw [hx] at aV;simp only [Value.slice.injEq] at aV;obtain ⟨bv,ci,ch⟩:=aV;clear ci ch;obtain ⟨tn,aX⟩:∃ tn,tn=(wordI ts i).length:=⟨_,rfl⟩;rw [bv,← bz] at hx;have HX:Hid (txv (ts.getD i Tok.zero) (gs.getD i (0,0))=.slice (some ⟨tg,0,none⟩) (wordI ts i).length tc):=hx;have bY:Hid (tn=(wordI ts i).length):=aX;rw [← aX] at aD cj;obtain ⟨kd,bG⟩:∃ kd,kd=kindI ts i:=⟨_,rfl⟩;have Z:Hid (kd=kindI ts i):=bG;clear hx aX bG bv az bz;go_enter Tryz.func134, Tryz.ntmps134;go_wp2_with fail;refine (takeS_ok base pb g i ts gs en 1 _ cN.out b7.out HK.out.len h1).mono ?_;rintro e w1 ⟨rfl,bP,a3⟩;rw [HX.out,← bY.out];have cM:Hid (PsAt w1 pb g (i+1) ts en (-1)):=bP;have c5:Hid (TkM base pb w1 g ts gs):=b7.out.bt a3 (by simp;omega);have bS:Hid (BoxC w1 w.heap.size (.int .i64 0) (.slice none 0 0) (.slice none 0 0) (.slice none 0 0)):=(a3.block _ bT.out.lt (by omega)).trans bT.out;have bq:Hid (Bt pb w.heap.size w w1):=(Bt.of_below au.out).trans (a3.mono au.out.size);have bD:w.heap.size<w1.heap.size:=bS.out.lt
 have ac:Hid (Rd 0 pb w1 (some ⟨tg,0,none⟩) tn tc (wordI ts i)):=by
  obtain ⟨a',c',aW,_,hr,_⟩:=c5.out.word ak;rw [HX.out] at aW;simp only [Value.slice.injEq,true_and] at aW;obtain ⟨rfl,rfl⟩:=aW;unfold Hid;rw [bY.out];exact hr
 obtain ⟨qa,qc,hq,_,_,_⟩:=bP;obtain ⟨q0,q1,q2,q3⟩:=hq.cells;clear a3 hq;go_wp2_with fail;refine (l2kind_any (some ⟨tg,0,none⟩) tn tc (wordI ts i) w1 ac.out (by omega) aD).mono ?_;rintro e w2 ⟨rfl,a2⟩;rw [show kindW (strOfNums (wordI ts i)).toList=kd from Z.out.symm];obtain ⟨W3,b5⟩:∃ W3,Hid (W3=w2.alloc (.cells #[.int .i64 kd,.slice none 0 0,.slice none 0 0,.slice none 0 0] 30)):=⟨_,rfl⟩;have aA:Below w2.heap.size w2 W3:=by rw [b5.out];exact (Below.refl _ _).alloc (Nat.le_refl _) _
 have Y:Below w1.heap.size w1 W3:=a2.trans (aA.mono a2.size);have b9:Hid (BoxC W3 w2.heap.size (.int .i64 kd) (.slice none 0 0) (.slice none 0 0) (.slice none 0 0)):=by unfold Hid;rw [b5.out];exact BoxC.new w2 _ _ _ _
 have cl:w1.heap.size≤w2.heap.size:=a2.size;have bC:w2.heap.size<W3.heap.size:=b9.out.lt;have cL:Hid (PsAt W3 pb g (i+1) ts en (-1)):=cM.out.below Y;have c4:Hid (TkM base pb W3 g ts gs):=c5.out.below (Y.mono (by omega));have cD:Hid (BoxC W3 w.heap.size (.int .i64 0) (.slice none 0 0) (.slice none 0 0) (.slice none 0 0)):=bS.out.below Y bD;have bp:Hid (Bt pb w.heap.size w W3):=bq.out.trans (Bt.of_below (Y.mono (by omega)));have d8:Hid (Rd 0 pb W3 (some ⟨tg,0,none⟩) tn tc (wordI ts i)):=ac.out.below Y (by omega);clear a2 Y aA q0 q1 q2 q3 ac;go_upto_region 7 with fail
 try dsimp only
 rw [← b5.out];obtain ⟨o0,o1,o2,o3⟩:=b9.out.cells;have du:(kd == 2)=false:=by rw [Z.out];simpa using H2.out
 obtain ⟨n,hn⟩:∃ n:Nat,kidN kd=(n:Int):=⟨(kidN kd).toNat,by have h:=H3.out;rw [← Z.out] at h;have:=kidS_kind (Z.out ▸ kindS_range ts i);omega⟩;have HN:Hid (kidN kd=(n:Int)):=hn;have dq:1≤n:=by have h:=H3.out;rw [← Z.out,hn] at h;omega
 have dn:n≤2:=by have h:=kidS_kind (Z.out ▸ kindS_range ts i);rw [hn] at h;omega
 have dr:((n:Int) == 0)=false:=by simp;omega
 have cQ:Hid (kidS kd=(n:Int)):=by unfold Hid;rw [Z.out,kidS_rng (kindS_range ts i),← Z.out];exact hn
 clear hn;go_wp2_with fail;refine (l2kids_any kd W3).mono ?_;rintro e wk ⟨rfl,bx⟩;rw [bx,cQ.out];clear bx;go_wp2_with fail;refine (takeS_ok base pb g (i+1) ts gs en 3 W3 cL.out c4.out HK.out.len h4).mono ?_;rintro e w4 ⟨rfl,bO,X⟩
 obtain ⟨xa,xn,xc,bu⟩:∃ xa xn xc,txv (ts.getD (i+1) Tok.zero) (gs.getD (i+1) (0,0))=.slice xa xn xc:=by
  obtain ⟨a,c,h⟩:=txv_form (ts.getD (i+1) Tok.zero) (gs.getD (i+1) (0,0));exact ⟨_,_,_,h⟩
 rw [bu];have ap:Hid (PsAt w4 pb g (i+2) ts en (-1)):=bO;have bZ:Hid (TkM base pb w4 g ts gs):=c4.out.bt X (by omega);have ai:Hid (BoxC w4 w2.heap.size (.int .i64 kd) (.slice none 0 0) (.slice none 0 0) (.slice none 0 0)):=(X.block _ bC (by omega)).trans b9.out;have bR:Hid (BoxC w4 w.heap.size (.int .i64 0) (.slice none 0 0) (.slice none 0 0) (.slice none 0 0)):=(X.block _ (by omega) (by omega)).trans cD.out;have aB:Hid (Bt pb w.heap.size w w4):=bp.out.trans (X.mono (by omega));have ck:w2.heap.size<w4.heap.size:=ai.out.lt;have ds:=isI_lt h4;clear bO X bu o0 o1 o2 o3;obtain ⟨o0,o1,o2,o3⟩:=ai.out.cells;have dt:¬ (6:Int)≤kd:=by rw [Z.out];exact roleS_no (kindS_range ts i) H5.out
 obtain ⟨st,aY⟩:∃ st,st=i+2:=⟨_,rfl⟩;obtain ⟨role,R⟩:∃ role:List Int,role=[]:=⟨_,rfl⟩;obtain ⟨br,cx⟩:∃ br:Nat,br=0:=⟨_,rfl⟩;obtain ⟨ra,rn,rc,bE⟩:∃ ra rn rc,Value.slice ra rn rc=.slice none 0 0:=⟨_,_,_,rfl⟩
 have cd:Hid (conR ts en (f+1) i=closeR ts en kd role (kidsR (conR ts en f) st n)):=by
  have e1:(kidN (kindI ts i)).toNat=n:=by rw [← Z.out,HN.out];rfl
  have e2:startI (kindI ts i) i=st:=by rw [aY,startI,H5.out];rfl
  have e3:roleI ts (kindI ts i) i=role:=by rw [R,roleI,H5.out];rfl
  unfold Hid;rw [HC.out,e1,e2,e3,← Z.out]
 have bm:Hid (st≤ts.length):=by unfold Hid;omega
 obtain ⟨Wc,af⟩:∃ W,W=w4:=⟨_,rfl⟩;have an:Hid (StatR pb w Wc.heap.size w2.heap.size br role):=⟨by omega,by rw [af];exact ck,aj,fun h=>absurd R h⟩
 have cR:Hid (InvR pb ts gs st w Wc.heap.size w2.heap.size f kd (.slice ra rn rc) role br Wc (.slice none 0 0) [] [] [] st):=by
  unfold Hid;rw [af,bE,R];exact ⟨RowK.nil _ _ _,by simp,fun x hx=>by simp at hx,Use.nil _ _ _ _ _ _,ai.out,RolR.nil _ _,aB.out,Nat.le_refl _⟩
 have cJ:Hid (PsAt Wc pb g st ts en (-1)):=by unfold Hid;rw [af,aY];exact ap.out
 have cH:Hid (Use ts gs i st (w.heap.size+1) Wc.heap.size (leafB br 0 role.length)):=by unfold Hid;rw [R];exact Use.nil _ _ _ _ _ _
 have cB:Hid (BoxC Wc w.heap.size (.int .i64 0) (.slice none 0 0) (.slice none 0 0) (.slice none 0 0)):=by unfold Hid;rw [af];exact bR.out
 have bj:i≤st:=by omega
 have d3:w2.heap.size<Wc.heap.size:=an.out.o1;have d1:pb<w2.heap.size:=by omega
 have d0:w.heap.size≤w2.heap.size:=by omega
 have bi:pb<Wc.heap.size:=by omega
 have bc:w.heap.size<Wc.heap.size:=by omega
 rw [← af] at o0 o1 o2 o3 ⊢;clear aY R cx bE af ap bZ ai bR aB;obtain ⟨i0,cr,cg,cf,ce⟩:=info_parts Tryz.infoCon4;have dx:IntKind.i64.wrap (dp+1)=dp+1:=wrap64_id (by omega);go_wp2_with fail;go_loopw [8] (fun q wr=>∃ (m:Nat) (kv:Value),m≤n∧q=.int .i64 m∧BoxC wr w.heap.size (.int .i64 0) (.slice none 0 0) (.slice none 0 0) (.slice none 0 0)∧(∃ (j:Nat) (cs:List CN) (Ls:List (List (Addr × IntKind))) (xs:List Value),kidsR (conR ts en f) st m=.ok cs j∧st≤j∧j≤ts.length∧InvR pb ts gs st w Wc.heap.size w2.heap.size f kd (.slice ra rn rc) role br wr kv cs Ls xs j∧PsAt wr pb g j ts en (-1))) (fun q _=>n - (intOf q).toNat)
 case atStart=>exact ⟨0,.slice none 0 0,Nat.zero_le _,rfl,cB.out,st,[],[],[],rfl,Nat.le_refl _,bm.out,cR.out,cJ.out⟩
 case round =>
  obtain ⟨m,kv,hm,rfl,bM,cn⟩:=hrel;have aO:Hid (BoxC wr w.heap.size (.int .i64 0) (.slice none 0 0) (.slice none 0 0) (.slice none 0 0)):=bM;clear bM;obtain ⟨j,cs,Ls,xs,aF,bB,cq,T,aK⟩:=cn;have HI:Hid (InvR pb ts gs st w Wc.heap.size w2.heap.size f kd (.slice ra rn rc) role br wr kv cs Ls xs j):=T;have c7:Hid (PsAt wr pb g j ts en (-1)):=aK;have ba:Hid (kidsR (conR ts en f) st m=.ok cs j):=aF;have bX:Hid (TkM base pb wr g ts gs):=a8.out.bt T.bt (by omega);have cc:Hid (cs.length=m):=kidsS_len aF;have bf:Wc.heap.size≤wr.heap.size:=T.sz;have cm:pb<wr.heap.size:=aK.lt;by_cases hlt':m<n
  · have cp:(m:Int)<(n:Int):=by omega
    have aZ:m<n:=hlt';obtain ⟨o0,o1,o2,o3⟩:=T.box.cells;have d2:w2.heap.size<wr.heap.size:=T.box.lt;clear aF T aK;cases y:conR ts en f j with
    | bad p =>
     exfalso
     obtain ⟨c9,j9,b3⟩:=ca.out;have aq:conR ts en (f+1) i=.bad p:=by rw [cd.out,kidsS_bad (kidsS_fell ba.out y) n (by omega)];rfl
     rw [b3] at aq;cases aq
    | ok c j' =>
     have b2:=conR_end ts en f j c j' y;have cP:Hid (kidsR (conR ts en f) st (m+1)=.ok (cs++[c]) j'):=kidsS_step ba.out y;go_wp2_with fail
     first | go_region_law
      (first
      | (refine step_append_lies _ rfl (.tmp 65) (.tmp 70) 28 rfl Wc.heap.size 30 i0 (.agg #[.int .i64 0,.slice none 0 0,.slice none 0 0,.slice none 0 0]) 4 80 Tryz.underlying28 cr cg cf ce rfl (by decide) kv m xs (by simp [Act.eval]) aC.out ⟨w5.heap.size,0,none⟩ 1 1 [.int .i64 zk,.slice I F G,.slice E A D,.slice O J N] (by simp [Act.eval]) rfl (new4 _ _ _ _ _ _ _ rfl) (one4 _ _ _ _ _ _ _ _ _ _) (by decide) (by unfold maxLen;omega) (by omega) bg _ rfl ?_;intro g1 a6 w6 ay U bL d4;have HA:Hid (BoxC w6 w2.heap.size (.int .i64 kd) (.slice none 0 0) (.slice ra rn rc) kv∧InvR pb ts gs st w Wc.heap.size w2.heap.size f kd (.slice ra rn rc) role br (w6.setCell ⟨w2.heap.size,3,none⟩ (.slice (some ⟨g1,0,none⟩) (m+1) a6)) (.slice (some ⟨g1,0,none⟩) (m+1) a6) (cs++[c]) (Ls++[L5]) (xs++[.int .i64 zk,.slice I F G,.slice E A D,.slice O J N]) j'):=InvR.app an.out a8.out a9.out HI.out.us cA.out bf aQ.out bB (Nat.le_of_lt b2.1) (by rw [cc.out]) ay U bL;have c6:Hid (w6.heap[pb]?=w5.heap[pb]?∧w6.heap[w.heap.size]?=w5.heap[w.heap.size]?):=⟨(U.block pb (Nat.lt_of_lt_of_le ax V.out.size) (fun e=>bQ.out pb bi e.symm)).trans (V.out.block pb ax),(U.block w.heap.size (Nat.lt_of_lt_of_le av V.out.size) (fun e=>bQ.out w.heap.size bc e.symm)).trans (V.out.block w.heap.size av)⟩;obtain ⟨_,_,_,dk⟩:=HA.out.1.cells;have dz:=HA.out.1.frz 3;clear ay U bL)
      | (go_simp;refine (HH.out (dp+1) (by omega) (by omega) base pb g j ts gs en wr.drew b8.out HK.out (c7.out.of rfl) (bX.out.keep (fun _ _ _=>rfl)) cq ⟨_,_,y⟩).mono ?_;rintro e w5 hP;rw [y] at hP;obtain ⟨ae,v5,L5,cv,aL,ab⟩:=hP;subst cv;obtain ⟨I,F,G,E,A,D,O,J,N,rfl⟩:=aL.ow.agg;obtain ⟨zk,aa⟩:∃ zk,zk=c.kind:=⟨_,rfl⟩;rw [← aa] at aL;rw [← aa];have ar:Hid (Bt pb wr.heap.size wr w5):=(Bt.refl _ _ _).drew.trans ae;have ad:Hid (InvR pb ts gs st w Wc.heap.size w2.heap.size f kd (.slice ra rn rc) role br w5 kv cs Ls xs j):=HI.out.keep an.out a8.out ar.out;have V:Hid (Below w5.heap.size w5 (w5.alloc (.cells #[.int .i64 zk,.slice I F G,.slice E A D,.slice O J N] 30))):=(Below.refl _ _).alloc (Nat.le_refl _) _;have a9:Hid (InvR pb ts gs st w Wc.heap.size w2.heap.size f kd (.slice ra rn rc) role br (w5.alloc (.cells #[.int .i64 zk,.slice I F G,.slice E A D,.slice O J N] 30)) kv cs Ls xs j):=ad.out.keep an.out a8.out (Bt.of_below V.out);have aQ:Hid (OwnR ts gs j j' wr.heap.size (w5.alloc (.cells #[.int .i64 zk,.slice I F G,.slice E A D,.slice O J N] 30)) f (.agg #[.int .i64 zk,.slice I F G,.slice E A D,.slice O J N]) c L5):=OwnR.bt aL a8.out cm (Bt.of_below V.out) (Nat.le_of_lt ab.lt);have aC:Hid ((w5.alloc (.cells #[.int .i64 zk,.slice I F G,.slice E A D,.slice O J N] 30)).ownsRow Wc.heap.size 30 4 kv m xs):=(by have:=a9.out.row.row;rw [cc.out] at this;exact this);have cA:Hid (∀ g,kv.ownBlock=some g→g<wr.heap.size):=(fun g hg=>(HI.out.row.row.lt g hg).2);have bQ:Hid (∀ b,b<Wc.heap.size→kv.ownBlock≠some b):=(fun b hb e=>absurd (HI.out.row.row.lt _ e).1 (by omega));have bg:Wc.heap.size≤(w5.alloc (.cells #[.int .i64 zk,.slice I F G,.slice E A D,.slice O J N] 30)).heap.size:=a9.out.sz;have a5:Hid (BoxC w5 w.heap.size (.int .i64 0) (.slice none 0 0) (.slice none 0 0) (.slice none 0 0)):=(ar.out.block _ aO.out.lt (by omega)).trans aO.out;have ao:Hid (PsAt w5 pb g j' ts en (-1)):=ab;have ax:pb<w5.heap.size:=ab.lt;have av:w.heap.size<w5.heap.size:=a5.out.lt;obtain ⟨_,_,_,dl⟩:=ad.out.box.cells;have d5:w2.heap.size<w5.heap.size:=ad.out.box.lt;clear ae ab aL aa)) | fail
     all_goals
      have cC:Hid (BoxC (w6.setCell ⟨w2.heap.size,3,none⟩ (.slice (some ⟨g1,0,none⟩) (m+1) a6)) w.heap.size (.int .i64 0) (.slice none 0 0) (.slice none 0 0) (.slice none 0 0)):=(Below.heap_setCell w6 ⟨w2.heap.size,3,none⟩ _ w.heap.size (by show w.heap.size≠w2.heap.size;omega)).trans (c6.out.2.trans a5.out);have cK:Hid (PsAt (w6.setCell ⟨w2.heap.size,3,none⟩ (.slice (some ⟨g1,0,none⟩) (m+1) a6)) pb g j' ts en (-1)):=ao.out.of ((Below.heap_setCell w6 ⟨w2.heap.size,3,none⟩ _ pb (by show pb≠w2.heap.size;omega)).trans c6.out.1);go_wp2_with fail;go_roundw
      case rel=>exact ⟨m+1,_,by omega,by go_num,cC.out,j',_,_,_,cP.out,by omega,b2.2,HA.out.2,cK.out⟩
      case measure=>simp [intOf];omega
  have aZ:m=n:=by omega
  have cp:¬ (m:Int)<(n:Int):=by omega
  have cb:Hid (conR ts en (f+1) i=closeR ts en kd role (.ok cs j)):=by unfold Hid;rw [cd.out,← aZ,ba.out]
  clear aF T aK aZ;obtain ⟨aU,aS,aT,bF⟩:=HI.out.row.isSlice;cases h7:isI ts 4 j
  · exfalso
    obtain ⟨c9,j9,b3⟩:=ca.out;have aq:conR ts en (f+1) i=.bad (hereI ts en j):=by rw [cb.out,closeR,if_neg (by rw [h7];simp)]
    rw [b3] at aq;cases aq
  have cT:Hid (conR ts en (f+1) i=.ok (.mk kd [] role cs) (j+1)):=by unfold Hid;rw [cb.out,closeR,if_pos h7]
  go_wp2_with fail;refine (takeS_ok base pb g j ts gs en 4 wr c7.out bX.out HK.out.len h7).mono ?_;rintro e w5 ⟨rfl,ab,ae⟩
  obtain ⟨ya,yn,yc,bs⟩:∃ ya yn yc,txv (ts.getD j Tok.zero) (gs.getD j (0,0))=.slice ya yn yc:=by
   obtain ⟨a,c,h⟩:=txv_form (ts.getD j Tok.zero) (gs.getD j (0,0));exact ⟨_,_,_,h⟩
  rw [bs];have a9:Hid (InvR pb ts gs st w Wc.heap.size w2.heap.size f kd (.slice ra rn rc) role br w5 kv cs Ls xs j):=HI.out.keep an.out a8.out ae;have a5:Hid (BoxC w5 w.heap.size (.int .i64 0) (.slice none 0 0) (.slice none 0 0) (.slice none 0 0)):=(ae.block _ aO.out.lt (by omega)).trans aO.out;have ao:Hid (PsAt w5 pb g (j+1) ts en (-1)):=ab;rw [bF] at a9;have bo:Hid (Bt pb w.heap.size w w5):=a9.out.bt;obtain ⟨o0,o1,o2,o3⟩:=a9.out.box.cells;obtain ⟨z0,z1,z2,z3⟩:=a5.out.cells;have dc:=a5.out.frz 0;have db:=a5.out.frz 1;have da:=a5.out.frz 2;have d9:=a5.out.frz 3;clear ae ab bF bs;go_wp2;obtain ⟨cy,cz⟩:=set4_mem a5.out (.int .i64 kd) (.slice none 0 0) (.slice ra rn rc) (.slice aU aS aT) bo.out (Nat.le_refl _);obtain ⟨s0,s1,s2,s3⟩:=cy.cells;refine bodyPost_ret (v:=.agg #[.int .i64 kd,.slice none 0 0,.slice ra rn rc,.slice aU aS aT]) (by simp [results, Tryz.results134,go_sem,s0,s1,s2,s3]) rfl ?_;obtain ⟨L,hL⟩:=a9.out.whole a8.out (i:=i) (s:=w.heap.size+1) (by omega) (by omega) bj bB cH.out;have co:=hL.us.ne a8.out (o:=w.heap.size) (by omega) (Nat.lt_succ_self _);have aM:=OwnR.toS hL (w':=((((w5.setCell ⟨w.heap.size,0,none⟩ (.int .i64 kd)).setCell ⟨w.heap.size,1,none⟩ (.slice none 0 0)).setCell ⟨w.heap.size,2,none⟩ (.slice ra rn rc)).setCell ⟨w.heap.size,3,none⟩ (.slice aU aS aT))) (fun x hx=>heap_set4 _ _ _ _ _ (co x hx)) (by simp);exact SP.good cz cT.out ⟨aM.ow,aM.nd,aM.fr,aM.us.mono (Nat.le_refl _) (Nat.le_succ _) (Nat.le_succ _) (Nat.le_refl _)⟩ (ao.out.of (heap_set4 _ _ _ _ _ (by omega)))
theorem conG_any:∀ f,ConG f:=by
 intro f
 induction f with
 | zero=>intro dp aG bK base pb g i ts gs en w hp hK hP hT hi a0;obtain ⟨c,j,h⟩:=a0;simp [conR] at h
 | succ f ih =>
  intro dp aG bK base pb g i ts gs en w hp hK hP hT hi a0;obtain ⟨c,j,a1⟩:=id a0;have d7:=a1;simp only [conR] at a1;cases h1:isI ts 1 i
  · rw [if_pos h1] at a1;cases a1
  rw [if_neg (by simp [h1])] at a1;by_cases h2:kindI ts i=2
  · cases h3:keptB (strOfNums (wordI ts i)).toList
    · exact con_name f dp aG (by omega) base pb g i ts gs en w hK hP hT h1 h2 h3
    rw [if_pos h2,if_pos h3] at a1;cases a1
  obtain ⟨h5,h6⟩:=hp i h1;have h3:kidN (kindI ts i)≠0:=by rcases h6 with h | h;exact absurd h h2;exact h
  rw [if_neg h2,if_neg h3] at a1;cases h4:isI ts 3 (i+1)
  · rw [if_pos h4] at a1;cases a1
  exact con_kidsG f dp aG (by omega) base pb g i ts gs en w hK hP hT h1 h2 h3 h4 h5 (by omega) ih hp a0
def goodT (zs:List Int):Bool:=decide ((toks zs).2=-1) && ((List.range (toks zs).1.length).all (fun q=>!isI (toks zs).1 1 q || (!roleB (kindI (toks zs).1 q) && (decide (kindI (toks zs).1 q=2) || decide (kidN (kindI (toks zs).1 q)≠0)))) && (match conR (toks zs).1 (zs.length:Nat) 6 0 with | .bad _=>false | .ok c j=>decide (j=(toks zs).1.length) && conOk c))
theorem goodT_plain {zs:List Int} {ts:List Tok} {p:Int} (h:goodT zs=true) (ht:toks zs=(ts,p)):p=-1∧PlainT ts∧∃ c,conR ts (zs.length:Nat) 6 0=.ok c ts.length∧conOk c=true:=by
 unfold goodT at h;rw [ht] at h;simp only [Bool.and_eq_true,decide_eq_true_eq,List.all_eq_true,List.mem_range] at h;obtain ⟨h1,h2,h3⟩:=h;refine ⟨h1,fun q hq=>?_,?_⟩
 · have:=h2 q (isI_lt hq);simp only [hq,Bool.not_true,Bool.false_or,Bool.and_eq_true,Bool.or_eq_true,decide_eq_true_eq,Bool.not_eq_true'] at this;exact this
 cases hc:conR ts (zs.length:Nat) 6 0 with
 | bad a=>rw [hc] at h3;simp at h3
 | ok c j=>rw [hc] at h3;simp only [Bool.and_eq_true,decide_eq_true_eq] at h3;exact ⟨c,by rw [h3.1],h3.2⟩
theorem conReadG {zs:List Int} {ts:List Tok} {c:CN} {n:Nat} (ht:toks zs=(ts,-1)) (hl:zs.length=n) (h:conR ts (n:Nat) 6 0=.ok c ts.length) (hc:conOk c=true):conRead zs=(c,-1):=by
 have h1:=wholeR_ok ht hl h (Nat.lt_irrefl _);unfold conRead;rw [h1];rw [if_neg (fun e=>by have:=e.2;rw [hc] at this;cases this)]
set_option maxRecDepth 100000 in
set_option maxHeartbeats 2000000 in
theorem specConReadG_any (a:Option Addr) (n aN:Nat) (zs:List Int) (w:World) {lo hi:Nat} (h:Rd lo hi w a n aN zs) (ct:hi≤w.heap.size) (hg:goodT zs=true) :
    Calls Tryz.prog 86 #[.slice a n aN] w (AnsP w (conRead zs)):=by
 have HL:Hid (zs.length=n):=h.len;obtain ⟨ts,bad,aE⟩:∃ ts p,toks zs=(ts,p):=⟨_,_,rfl⟩;have HT:Hid (toks zs=(ts,bad)):=aE;have HK:Hid (Tks ts (n:Nat)):=by have:=toks_tks zs n;rw [aE] at this;exact this
 obtain ⟨bk,aj,c,y,a0⟩:=goodT_plain hg aE;have b8:Hid (PlainT ts):=aj;have bn:Hid (conR ts (zs.length:Nat) 6 0=.ok c ts.length):=y;subst bk;obtain ⟨W0,aI⟩:∃ W0,W0=w.alloc (.cells #[.int .i64 0,.slice none 0 0,.slice none 0 0,.slice none 0 0] 30):=⟨_,rfl⟩;have cF:Hid (W0=w.alloc (.cells #[.int .i64 0,.slice none 0 0,.slice none 0 0,.slice none 0 0] 30)):=aI;have a7:Below w.heap.size w W0:=by rw [aI];exact (Below.refl _ _).alloc (Nat.le_refl _) _
 have au:Hid (Below w.heap.size w W0):=a7;have b6:Hid (BoxC W0 w.heap.size (.int .i64 0) (.slice none 0 0) (.slice none 0 0) (.slice none 0 0)):=by unfold Hid;rw [aI];exact BoxC.new w _ _ _ _
 have dm:w.heap.size<W0.heap.size:=b6.out.lt;have cI:Hid (Rd lo hi W0 a n aN zs):=h.below a7 ct;have cu:hi≤W0.heap.size:=by omega
 clear h a7 aI aE aj y hg;go_enter Tryz.func86, Tryz.ntmps86;go_wp2_with fail;rw [← cF.out];refine (specTokens_any a n aN zs W0 cI.out cu).mono ?_;rintro e w1 ⟨vt,gs,rfl,hO,a3⟩;rw [HT.out] at hO ⊢;obtain ⟨ta,aR,g,rfl,bA,be,bd,bN⟩:=OwnT.tkm hO (pb:=w1.heap.size) (Nat.le_refl _);have bW:Hid (BoxC w1 w.heap.size (.int .i64 0) (.slice none 0 0) (.slice none 0 0) (.slice none 0 0)):=b6.out.below a3 b6.out.lt;have cZ:Hid (Below w.heap.size w w1):=au.out.trans (a3.mono au.out.size);have bD:W0.heap.size≤w1.heap.size:=a3.size;obtain ⟨W2,aH⟩:∃ W,W=w1.alloc (.cells #[.slice ta ts.length aR,.int .i64 0,.int .i64 n,.int .i64 (-1)] 166):=⟨_,rfl⟩;have cE:Hid (W2=w1.alloc (.cells #[.slice ta ts.length aR,.int .i64 0,.int .i64 n,.int .i64 (-1)] 166)):=aH;have a2:Below w1.heap.size w1 W2:=by rw [aH];exact (Below.refl _ _).alloc (Nat.le_refl _) _
 have c8:Hid (PsAt W2 w1.heap.size g 0 ts n (-1)):=⟨ta,aR,by rw [aH];exact BoxQ.new w1 _ _ _ _,bA,be,bd⟩;have aP:Hid (TkM W0.heap.size w1.heap.size W2 g ts gs):=bN.below a2;have bV:Hid (BoxC W2 w.heap.size (.int .i64 0) (.slice none 0 0) (.slice none 0 0) (.slice none 0 0)):=bW.out.below a2 bW.out.lt;have cY:Hid (Below w.heap.size w W2):=cZ.out.trans (a2.mono (by omega));have cl:w1.heap.size<W2.heap.size:=c8.out.lt;clear hO a3 bN bA aH a2;go_wp2_with fail;rw [← cE.out];have y:conR ts (n:Nat) 6 0=.ok c ts.length:=by rw [← HL.out];exact bn.out
 refine (conG_any 6 1 (by omega) (by omega) W0.heap.size w1.heap.size g 0 ts gs n W2 b8.out HK.out c8.out aP.out (Nat.zero_le _) ⟨_,_,y⟩).mono ?_;rintro e w3 hP;rw [y] at hP;obtain ⟨Y,v,L,he,a4,am⟩:=hP;obtain ⟨j,bH⟩:∃ j,j=ts.length:=⟨_,rfl⟩;rw [← bH] at a4 am;subst he;obtain ⟨I,F,G,E,A,D,O,J,N,rfl⟩:=a4.ow.agg;obtain ⟨zk,aa⟩:∃ zk,zk=c.kind:=⟨_,rfl⟩;rw [← aa] at a4;rw [← aa];have b2:j≤ts.length:=by omega
 have d6:ts.length≤j:=by omega
 clear bH;obtain ⟨W4,b4⟩:∃ W,Hid (W=w3.alloc (.cells #[.int .i64 zk,.slice I F G,.slice E A D,.slice O J N] 30)):=⟨_,rfl⟩;have X:Below w3.heap.size w3 W4:=by rw [b4.out];exact (Below.refl _ _).alloc (Nat.le_refl _) _
 have ap:Hid (PsAt W4 w1.heap.size g j ts n (-1)):=am.below X;have aJ:BoxC w3 w.heap.size (.int .i64 0) (.slice none 0 0) (.slice none 0 0) (.slice none 0 0):=(Y.block _ bV.out.lt (by omega)).trans bV.out;have cG:Hid (BoxC W4 w.heap.size (.int .i64 0) (.slice none 0 0) (.slice none 0 0) (.slice none 0 0)):=aJ.below X aJ.lt;have cX:Hid (Below w.heap.size w W4):=(cY.out.trans (Y.below (by omega) (by omega))).trans (X.mono (by have:=aJ.lt;omega));have bZ:Hid (TkM W0.heap.size w1.heap.size W4 g ts gs):=(aP.out.bt Y (by omega)).below (X.mono (Nat.le_of_lt am.lt));have cV:Hid (BoxC W4 w3.heap.size (.int .i64 zk) (.slice I F G) (.slice E A D) (.slice O J N)):=by unfold Hid;rw [b4.out];exact BoxC.new w3 _ _ _ _
 have bC:w1.heap.size<w3.heap.size:=am.lt;have bJ:=a4.us.ge aP.out (by omega);have ak:=a4.us.lt aP.out (by omega);have ai:Hid (OwnC W0.heap.size W4 6 (.agg #[.int .i64 zk,.slice I F G,.slice E A D,.slice O J N]) c L):=OwnC.below (w:=w3) ⟨a4.ow,a4.nd,a4.fr,fun x hx=>⟨bJ x hx,ak x hx⟩⟩ X;clear Y am X aJ a4 bJ ak aa;go_upto_region 6 with fail;rw [← b4.out];obtain ⟨qa,qc,hq,_,_,_⟩:=ap.out;obtain ⟨q0,q1,q2,q3⟩:=hq.cells;obtain ⟨m,hm⟩:∃ m,m=ts.length:=⟨_,rfl⟩;have HM:Hid (m=ts.length):=hm;rw [← hm] at q0;clear hq hm;have hj:¬ j<ts.length:=by omega
 have dv:¬ (j:Int)<(m:Int):=by have:=HM.out;omega
 have cS:Hid (conRead zs=(c,-1)):=conReadG HT.out HL.out y a0;go_quiet (fail);clear q0 q1 q2 q3;obtain ⟨W5,ag⟩:∃ W,Hid (W=W4.drewN nq):=⟨_,rfl⟩;rw [← ag.out];have ao:Hid (PsAt W5 w1.heap.size g j ts n (-1)):=by unfold Hid;rw [ag.out];exact ap.out.of rfl
 have bU:Hid (BoxC W5 w.heap.size (.int .i64 0) (.slice none 0 0) (.slice none 0 0) (.slice none 0 0)):=by unfold Hid;rw [ag.out];exact cG.out
 have bb:Hid (BoxC W5 w3.heap.size (.int .i64 zk) (.slice I F G) (.slice E A D) (.slice O J N)):=by unfold Hid;rw [ag.out];exact cV.out
 have ar:Hid (Below w.heap.size w W5):=by unfold Hid;rw [ag.out];exact below_drewN cX.out nq
 have aQ:Hid (OwnC W0.heap.size W5 6 (.agg #[.int .i64 zk,.slice I F G,.slice E A D,.slice O J N]) c L):=by unfold Hid;rw [ag.out];exact OwnC.below ai.out (below_drewN (Below.refl _ _) nq)
 obtain ⟨qa,qc,hq,_,_,_⟩:=ao.out;obtain ⟨q0,q1,q2,q3⟩:=hq.cells;obtain ⟨c0,c1,c2,c3⟩:=bb.out.cells;clear hq;go_wp2_with fail;refine (specConOk_any aQ.out.rd (Nat.le_refl _)).mono ?_;rintro e w6 ⟨rfl,al⟩;rw [a0];have ah:Hid (BoxC w6 w.heap.size (.int .i64 0) (.slice none 0 0) (.slice none 0 0) (.slice none 0 0)):=bU.out.below al bU.out.lt;have cU:Hid (BoxC w6 w3.heap.size (.int .i64 zk) (.slice I F G) (.slice E A D) (.slice O J N)):=bb.out.below al bb.out.lt;have cW:Hid (Below w.heap.size w w6):=ar.out.trans (al.mono ar.out.size);have cO:Hid (OwnC W0.heap.size w6 6 (.agg #[.int .i64 zk,.slice I F G,.slice E A D,.slice O J N]) c L):=OwnC.below aQ.out al;clear al c0 c1 c2 c3 q0 q1 q2 q3;obtain ⟨c0,c1,c2,c3⟩:=cU.out.cells;obtain ⟨v0,v1,v2,v3⟩:=ah.out.cells;have di:=ah.out.frz 0;have dh:=ah.out.frz 1;have de:=ah.out.frz 2;have dd:=ah.out.frz 3;go_wp2;obtain ⟨s0,s1,s2,s3⟩:=(ah.out.set4 (.int .i64 zk) (.slice I F G) (.slice E A D) (.slice O J N)).cells;refine bodyPost_ret (v:=.tuple #[.agg #[.int .i64 zk,.slice I F G,.slice E A D,.slice O J N],.int .i64 (-1)]) (by simp [results, Tryz.results86,go_sem,s0,s1,s2,s3]) rfl ?_;refine AnsP.mk (L:=L) cS.out ?_ ((((cW.out.setCell (Nat.le_refl _) _).setCell (Nat.le_refl _) _).setCell (Nat.le_refl _) _).setCell (Nat.le_refl _) _);exact (cO.out.same (fun q hq _=>heap_set4 _ _ _ _ _ (by omega)) (by simp)).mono (by omega)
end Go.Proofs.YtnmljalcndfjmaaGreat
