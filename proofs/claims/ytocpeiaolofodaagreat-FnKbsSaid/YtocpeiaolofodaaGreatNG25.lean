/- Several texts in one: DrawCon2, KdSm. -/
import Derived.Test.YtocpeiaolofodaaGreatNG22
import Derived.Test.YtocpeiaolofodaaGreatNG6
namespace Go.Proofs.YtocpeiaolofodaaGreat

section
open Go.RowKit
set_option maxRecDepth 100000 in
set_option maxHeartbeats 4000000 in
theorem l2draw_succ (f:Nat) (hf:f≤1000) {B:Nat} {a:Option Addr} {n z:Nat} {zs:List Int} {hi:Nat} (ih:∀ (w:World),Cur w B a n z zs hi→Calls Tryz.prog 63 #[.pointer (some ⟨B,0,none⟩),.int .i64 f] w (DcP B a n z zs hi f w)) {w:World} (c:Cur w B a n z zs hi) :
    Calls Tryz.prog 63 #[.pointer (some ⟨B,0,none⟩),.int .i64 ((f:Int)+1)] w (DcP B a n z zs hi (f+1) w):=by
 have hB:=c.lt;have bG:Below w.heap.size w (w.alloc (.cells #[.int .i64 0,.slice none 0 0,.slice none 0 0,.slice none 0 0] 37)):=(Below.refl _ _).alloc (Nat.le_refl _) _;have bP:Hid (DrM B a n z zs hi w (w.alloc (.cells #[.int .i64 0,.slice none 0 0,.slice none 0 0,.slice none 0 0] 37))):=⟨c.of (bG.mono hB),Bt.of_below bG,BoxC.new w _ _ _ _⟩;clear bG c;have hd:¬ (f:Int)+1≤0:=by omega
 go_enter Tryz.func63, Tryz.ntmps63;go_wp2_with fail;refine (l1Once_any bP.out.cur 3 (by omega)).mono ?_;rintro e w1 ⟨y,rfl,c8,c4⟩;have bg:Hid (DrM B a n z zs hi w w1):=bP.out.only hB c8 c4;clear c8 c4 bP;cases y
 · go_wp2_with fail;refine (l1Below_any bg.out.cur 5 (by omega)).mono ?_;rintro e w2 ⟨m,rfl,⟨cj,ci⟩,aS,aM⟩;have a1:Hid (DrM B a n z zs hi w w2):=bg.out.only hB aS aM;clear aS aM;obtain ⟨kd,cu,bD,bC⟩:∃ kd:Int,IntKind.i64.wrap (3+m)=kd∧3≤kd∧kd≤7:=⟨3+m,wrap64_id (by omega),by omega,by omega⟩
   obtain ⟨N,bh,cz,cy⟩:∃ N:Nat,Hid (kidS kd=(N:Int))∧1≤N∧N≤2:=by
    rcases kidS_37 ⟨bD,bC⟩ with e | e
    · exact ⟨1,e,by omega,by omega⟩
    exact ⟨2,e,by omega,by omega⟩
   have cv:IntKind.i64.wrap ((f:Int)+1 - 1)=f:=by rw [Int.add_sub_cancel];exact wrap64_id (by omega)
   have cx:IntKind.i64.wrap (f:Int)=f:=wrap64_id (by omega);have a2:Hid (TkM 0 B w 0 [] []):=tkm_nil B w;obtain ⟨W4,bc⟩:∃ W,Hid (W=w2.alloc (.cells #[.int .i64 kd,.slice none 0 0,.slice none 0 0,.slice none 0 0] 37)):=⟨_,rfl⟩;have c9:Below w2.heap.size w2 W4:=by rw [bc.out];exact (Below.refl _ _).alloc (Nat.le_refl _) _
   have bf:Hid (BoxC W4 w2.heap.size (.int .i64 kd) (.slice none 0 0) (.slice none 0 0) (.slice none 0 0)):=by unfold Hid;rw [bc.out];exact BoxC.new w2 _ _ _ _
   have b2:Hid (DrM B a n z zs hi w W4):=a1.out.below hB c9;have bS:w.heap.size<w2.heap.size:=a1.out.box.lt;have ay:w2.heap.size<W4.heap.size:=bf.out.lt;clear c9;go_upto_region 10 with fail
   try dsimp only
   rw [← bc.out];by_cases hk6:(6:Int)≤kd
   · obtain ⟨W5,am⟩:∃ W,Hid (W=W4.alloc (.cells #[.string { data:=#[114] },.string { data:=#[115] }] 9)):=⟨_,rfl⟩;have ag:Below W4.heap.size W4 W5:=by rw [am.out];exact (Below.refl _ _).alloc (Nat.le_refl _) _
     have bq:W4.heap.size<W5.heap.size:=by rw [am.out];simp
     have bL:Hid (∀ i:Nat,i<2→∃ s:ByteArray,W5.cell? ⟨W4.heap.size,i,none⟩=some (.string s)∧s.size≤1∧lowOk (numsOf s)=true):=by
      intro i hi;rw [am.out]
      match i,hi with
      | 0,_ | 1,_=>exact ⟨_,by simp;rfl,by decide,by decide⟩
     have ad:Hid (DrM B a n z zs hi w W5):=b2.out.below hB ag;have au:Hid (BoxC W5 w2.heap.size (.int .i64 kd) (.slice none 0 0) (.slice none 0 0) (.slice none 0 0)):=(ag.block _ ay).trans bf.out;clear ag;go_wp2_with fail;rw [← am.out];refine (l1Below_any ad.out.cur 2 (by omega)).mono ?_;rintro e w6 ⟨x,rfl,⟨bn,bm⟩,c6,aL⟩;obtain ⟨j,hj⟩:∃ j:Nat,x=(j:Int):=⟨x.toNat,by omega⟩;subst hj;have cm:j<2:=by omega
     obtain ⟨s,aK,cg,a8⟩:=bL.out j cm;have bM:Hid (lowOk (numsOf s)=true):=a8;clear a8;have bT:w6.cell? ⟨W4.heap.size,j,none⟩=some (.string s):=(World.cell?_of_block (w:=W5) (aL.other W4.heap.size bq (by omega))).trans aK;have aZ:Hid (DrM B a n z zs hi w w6):=ad.out.only hB c6 aL;have co:Hid (BoxC w6 w2.heap.size (.int .i64 kd) (.slice none 0 0) (.slice none 0 0) (.slice none 0 0)):=(aL.other _ (by omega) (by omega)).trans au.out;have ch:W4.heap.size<w6.heap.size:=Nat.lt_of_lt_of_le bq aL.below.size;have ck:(j:Int)<2:=by omega
     obtain ⟨W8,ai⟩:∃ W,Hid (W=Lib.bytesWorld w6 5 s):=⟨_,rfl⟩;obtain ⟨cp,b5⟩:∃ cp,Hid (cp=grownCap w6 s.size 0 5):=⟨_,rfl⟩
     have c5:(convert 9 22 (.string s)).run Tryz.prog w6=.ok (.slice (some ⟨w6.heap.size,0,none⟩) s.size cp) W8:=by
      rw [ai.out,b5.out];exact Lib.run_convert_string_bytes w6 9 22 5 s Tryz.underlying9 Tryz.underlying22 Tryz.underlying5
     have aE:Below w6.heap.size w6 W8:=by rw [ai.out];exact bytes_below w6 5 s
     have bp:w6.heap.size<W8.heap.size:=by rw [ai.out,Lib.bytesWorld_size];omega
     have ac:Hid (DrM B a n z zs hi w W8):=aZ.out.below hB aE;have bN:Hid (BoxC W8 w2.heap.size (.int .i64 kd) (.slice none 0 0) (.slice none 0 0) (.slice none 0 0)):=(aE.block _ (by omega)).trans co.out;have be:Hid (RolR W8 (.slice (some ⟨w6.heap.size,0,none⟩) s.size cp) (numsOf s) w6.heap.size):=by unfold Hid;rw [ai.out,b5.out];exact rol_conv w6 s (by omega)
     clear aK c6 aL aE bn bm;obtain ⟨_,_,o2,_⟩:=bN.out.cells;have cc:=bN.out.frz 2;go_upto_region 12 with fail;obtain ⟨Wc,aF⟩:∃ W,Hid (W=W8.setCell ⟨w2.heap.size,2,none⟩ (.slice (some ⟨w6.heap.size,0,none⟩) s.size cp)):=⟨_,rfl⟩;rw [← aF.out];have cf:Wc.heap.size=W8.heap.size:=by rw [aF.out];simp
     obtain ⟨ra,bz⟩:∃ ra:Option Addr,ra=some ⟨w6.heap.size,0,none⟩:=⟨_,rfl⟩;obtain ⟨rn,bu⟩:∃ rn,rn=s.size:=⟨_,rfl⟩;obtain ⟨rc,bx⟩:∃ rc,rc=cp:=⟨_,rfl⟩;obtain ⟨role,D⟩:∃ role,role=numsOf s:=⟨_,rfl⟩;obtain ⟨br,bb⟩:∃ br,br=w6.heap.size:=⟨_,rfl⟩;rw [← bz,← bu,← bx,← D,← bb] at be;rw [← bz,← bu,← bx] at aF
     have aX:Hid (role.length≤1∧roleFit (.mk kd [] role [])=true):=by
      unfold Hid;rw [D,numsOf_len];refine ⟨by omega,?_⟩;have az:kd=6∨kd=7:=by omega
      rcases az with e | e <;> subst e <;> exact bM.out
     have bV:w2.heap.size<Wc.heap.size:=by omega
     have av:w.heap.size<Wc.heap.size:=by omega
     have aY:Hid (DrM B a n z zs hi w Wc):=by unfold Hid;rw [aF.out];exact ac.out.set hB bS _
     have a4:Hid (StatR B w Wc.heap.size w2.heap.size br role):=⟨by omega,bV,hB,fun _=>by omega⟩;have bR:Hid (InvR B [] [] 0 w Wc.heap.size w2.heap.size (f+1) kd (.slice ra rn rc) role br Wc (.slice none 0 0) [] [] [] 0):=⟨RowK.nil _ _ _,by simp,fun x hx=>by simp at hx,Use.nil _ _ _ _ _ _,by rw [aF.out];exact BoxC.set2S bN.out _,be.out.keep (fun _=>by rw [aF.out];exact Below.heap_setCell _ _ _ _ (by show br≠w2.heap.size;omega)),aY.out.bt,Nat.le_refl _⟩
     have aW:Hid (Use [] [] 0 0 (w.heap.size+1) Wc.heap.size (leafB br 0 role.length)):=by
      intro x hx;obtain ⟨q,hq,rfl⟩:=mem_leafB.1 hx;exact .inl ⟨by show w.heap.size+1≤br;omega,by show br<Wc.heap.size;omega⟩
     clear bz bu bx D bb cf o2 cc c5 bT bp ch bq;obtain ⟨i0,bE,bk,bj,bi⟩:=info_parts Tryz.infoCon4;go_wp2_with fail;go_loopw [7] (fun q wr=>∃ (m:Nat) (kv:Value) (cs:List CN) (Ls:List (List (Addr × IntKind))) (xs:List Value),m≤N∧q=.int .i64 m∧cs.length=m∧(bulks cs≤m*(1+4 ^ (f+1))∧wfL cs=true)∧InvR B [] [] 0 w Wc.heap.size w2.heap.size (f+1) kd (.slice ra rn rc) role br wr kv cs Ls xs 0∧InvW wr Ls.flatten (f+1) xs∧DrM B a n z zs hi w wr) (fun q _=>N - (intOf q).toNat)
     case atStart=>exact ⟨0,.slice none 0 0,[],[],[],Nat.zero_le _,rfl,rfl,⟨by simp [bulks],rfl⟩,bR.out,InvW.nil _ _ _,aY.out⟩
     case round =>
      obtain ⟨m,kv,cs,Ls,xs,hm,rfl,aR,af,aa,aQ,aN⟩:=hrel;have b4:Hid (InvW wr Ls.flatten (f+1) xs):=aQ;have HI:Hid (InvR B [] [] 0 w Wc.heap.size w2.heap.size (f+1) kd (.slice ra rn rc) role br wr kv cs Ls xs 0):=aa;have I:Hid (DrM B a n z zs hi w wr):=aN;have a5:Hid (cs.length=m):=aR;have ak:Hid (bulks cs≤m*(1+4 ^ (f+1))∧wfL cs=true):=af;clear aa aN aR af aQ;have bU:w2.heap.size<wr.heap.size:=HI.out.box.lt;have a7:Wc.heap.size≤wr.heap.size:=HI.out.sz;have bA:B<wr.heap.size:=by omega
      go_wp2_with fail;refine (l2kids_any kd wr).mono ?_;rintro e wk ⟨rfl,aJ⟩;rw [aJ,bh.out];clear aJ;by_cases bX:m<N
      · have bB:(m:Int)<(N:Int):=by omega
        obtain ⟨o0,o1,o2,o3⟩:=HI.out.box.cells;go_wp2_with fail
        first | go_region_law
         (first
         | (refine step_append_lies _ rfl (.tmp 50) (.tmp 55) 35 rfl Wc.heap.size 37 i0 (.agg #[.int .i64 0,.slice none 0 0,.slice none 0 0,.slice none 0 0]) 4 80 Tryz.underlying35 bE bk bj bi rfl (by decide) kv m xs (by simp [Act.eval]) ab.out ⟨w5.heap.size,0,none⟩ 1 1 [.int .i64 zk,.slice X U V,.slice T J O,.slice H F G] (by simp [Act.eval]) rfl (new4 _ _ _ _ _ _ _ rfl) (one4 _ _ _ _ _ _ _ _ _ _) (by decide) (by unfold maxLen;omega) (by omega) ax _ rfl ?_;intro g1 Z w6 a9 E aT bW;have HA:Hid (BoxC w6 w2.heap.size (.int .i64 kd) (.slice none 0 0) (.slice ra rn rc) kv∧InvR B [] [] 0 w Wc.heap.size w2.heap.size (f+1) kd (.slice ra rn rc) role br (w6.setCell ⟨w2.heap.size,3,none⟩ (.slice (some ⟨g1,0,none⟩) (m+1) Z)) (.slice (some ⟨g1,0,none⟩) (m+1) Z) (cs++[c]) (Ls++[L5]) (xs++[.int .i64 zk,.slice X U V,.slice T J O,.slice H F G]) 0):=InvR.app a4.out a2.out aj.out HI.out.us aV.out a7 au.out (Nat.le_refl 0) (Nat.le_refl 0) (by rw [a5.out]) a9 E aT;have aC:Hid (InvW (w6.setCell ⟨w2.heap.size,3,none⟩ (.slice (some ⟨g1,0,none⟩) (m+1) Z)) (Ls++[L5]).flatten (f+1) (xs++[.int .i64 zk,.slice X U V,.slice T J O,.slice H F G])):=InvW.step aD.out a4.out aj.out a7 HI.out.us aV.out au.out am.out E _;have aZ:Hid (DrM B a n z zs hi w w6):=aB.out.grown hB E bK.out av;obtain ⟨_,_,_,cd⟩:=HA.out.1.cells;have cn:=HA.out.1.frz 3;clear a9 E aT)
         | (go_simp;refine (ih wr.drew (I.out.cur.keepB (w':=wr.drew) (fun _ _=>rfl))).mono ?_;rintro e w5 hP;obtain ⟨y0,y1,y2,y3,c,L5,bF,a3,ar,aP,a6,aU,ag⟩:=hP;subst bF;obtain ⟨aq,⟨X,U,V,ap⟩,⟨T,J,O,ao⟩,⟨H,F,G,ae⟩⟩:=a3.ow.form;rw [aq,ap,ao,ae] at a3;rw [ae] at ar;rw [aq,ap,ao,ae];clear aq ap ao ae;obtain ⟨zk,an⟩:∃ zk,zk=c.kind:=⟨_,rfl⟩;rw [← an] at a3;rw [← an];have al:Hid (Bt B wr.heap.size wr w5):=(Bt.refl _ _ _).drew.trans ag;have a0:Hid (InvR B [] [] 0 w Wc.heap.size w2.heap.size (f+1) kd (.slice ra rn rc) role br w5 kv cs Ls xs 0):=HI.out.keep a4.out a2.out al.out;have Y:Hid (Below w5.heap.size w5 (w5.alloc (.cells #[.int .i64 zk,.slice X U V,.slice T J O,.slice H F G] 37))):=(Below.refl _ _).alloc (Nat.le_refl _) _;have aj:Hid (InvR B [] [] 0 w Wc.heap.size w2.heap.size (f+1) kd (.slice ra rn rc) role br (w5.alloc (.cells #[.int .i64 zk,.slice X U V,.slice T J O,.slice H F G] 37)) kv cs Ls xs 0):=a0.out.keep a4.out a2.out (Bt.of_below Y.out);have ad:Hid (DrM B a n z zs hi w w5):=⟨aU,I.out.bt.trans (al.out.mono I.out.bt.size),(al.out.block _ I.out.box.lt (by omega)).trans I.out.box⟩;have aB:Hid (DrM B a n z zs hi w (w5.alloc (.cells #[.int .i64 zk,.slice X U V,.slice T J O,.slice H F G] 37))):=ad.out.below hB Y.out;have au:Hid (OwnR [] [] 0 0 wr.heap.size (w5.alloc (.cells #[.int .i64 zk,.slice X U V,.slice T J O,.slice H F G] 37)) (f+1) (.agg #[.int .i64 zk,.slice X U V,.slice T J O,.slice H F G]) c L5):=OwnR.bt a3 a2.out bA (Bt.of_below Y.out) (Nat.le_of_lt ad.out.cur.lt);have ab:Hid ((w5.alloc (.cells #[.int .i64 zk,.slice X U V,.slice T J O,.slice H F G] 37)).ownsRow Wc.heap.size 37 4 kv m xs):=(by have:=aj.out.row.row;rw [a5.out] at this;exact this);have aV:Hid (∀ g,kv.ownBlock=some g→g<wr.heap.size):=(fun g hg=>(HI.out.row.row.lt g hg).2);have bK:Hid (∀ b,kv.ownBlock=some b→Wc.heap.size≤b):=(fun b e=>(HI.out.row.row.lt _ e).1);have ax:Wc.heap.size≤(w5.alloc (.cells #[.int .i64 zk,.slice X U V,.slice T J O,.slice H F G] 37)).heap.size:=aj.out.sz;have aD:Hid (InvW (w5.alloc (.cells #[.int .i64 zk,.slice X U V,.slice T J O,.slice H F G] 37)) Ls.flatten (f+1) xs):=InvW.bt (InvW.bt b4.out HI.out a4.out al.out) a0.out a4.out (Bt.of_below Y.out);have am:Hid (Wh (w5.alloc (.cells #[.int .i64 zk,.slice X U V,.slice T J O,.slice H F G] 37)) L5 (f+1) (.slice H F G)):=ar.keep (fun x hx=>Y.out.block _ (a3.us.lt a2.out (Nat.le_of_lt ad.out.cur.lt) x hx));have bQ:Hid (c.bulk≤4 ^ (f+1)):=aP;have aA:Hid (wfC c=true):=a6;obtain ⟨_,_,_,ce⟩:=a0.out.box.cells;have bY:w2.heap.size<w5.heap.size:=a0.out.box.lt;clear a6 ag aU aP a3 an ar)) | fail
        all_goals
         have bO:Hid (DrM B a n z zs hi w (w6.setCell ⟨w2.heap.size,3,none⟩ (.slice (some ⟨g1,0,none⟩) (m+1) Z))):=aZ.out.set hB (by omega) _;have b3:Hid ((cs++[c]).length=m+1∧(bulks (cs++[c])≤(m+1)*(1+4 ^ (f+1))∧wfL (cs++[c])=true)):=⟨by rw [List.length_append,a5.out];rfl,bulks_snoc ak.out.1 bQ.out,wfL_snoc ak.out.2 aA.out⟩;go_wp2_with fail;go_roundw
         case rel=>exact ⟨m+1,_,_,_,_,by omega,by go_num,b3.out.1,b3.out.2,HA.out.2,aC.out,bO.out⟩
         case measure=>simp [intOf];omega
      have bB:¬ (m:Int)<(N:Int):=by omega
      obtain ⟨aI,aG,aH,aO⟩:=HI.out.row.isSlice;rw [aO] at HI;obtain ⟨o0,o1,o2,o3⟩:=HI.out.box.cells;obtain ⟨z0,z1,z2,z3⟩:=I.out.box.cells;have b9:=I.out.box.frz 0;have b8:=I.out.box.frz 1;have b7:=I.out.box.frz 2;have b6:=I.out.box.frz 3;clear aO;go_wp2;obtain ⟨L,hL,bJ⟩:=whole_rows HI.out a2.out (i:=0) (s:=w.heap.size+1) (by omega) (by omega) (Nat.le_refl 0) (Nat.le_refl 0) aW.out b4.out (fun e=>by have:=a5.out;omega) (aW.out.lt a2.out (by omega));have af:(CN.mk kd [] role cs).bulk≤4 ^ (f+1+1):=bulk_node aX.out.1 ak.out.1 (by omega);have bo:wfC (CN.mk kd [] role cs)=true:=wf_node bD bC aX.out.2 (by rw [bh.out];have:=a5.out;omega) ak.out.2;obtain ⟨ah,_⟩:=set4_mem I.out.box (.int .i64 kd) (.slice none 0 0) (.slice ra rn rc) (.slice aI aG aH) I.out.bt (Nat.le_refl _);obtain ⟨s0,s1,s2,s3⟩:=ah.cells;refine bodyPost_ret (v:=.agg #[.int .i64 kd,.slice none 0 0,.slice ra rn rc,.slice aI aG aH]) (by simp [results, Tryz.results63,go_sem,s0,s1,s2,s3]) rfl ?_;exact DrM.fin I.out hB hL bJ af bo
   obtain ⟨Wc,bH⟩:∃ W,W=W4:=⟨_,rfl⟩;obtain ⟨ra,rn,rc,bs⟩:∃ ra rn rc,Value.slice ra rn rc=.slice none 0 0:=⟨_,_,_,rfl⟩;obtain ⟨role,D⟩:∃ role:List Int,role=[]:=⟨_,rfl⟩;obtain ⟨br,bb⟩:∃ br:Nat,br=0:=⟨_,rfl⟩;rw [← bH] at bf b2 ay;rw [← bH]
   have aX:Hid (role.length≤1∧roleFit (.mk kd [] role [])=true):=by
    unfold Hid;rw [D];refine ⟨by simp,?_⟩;have az:kd=3∨kd=4∨kd=5:=by omega
    rcases az with e | e | e <;> subst e <;> rfl
   have av:w.heap.size<Wc.heap.size:=by omega
   have aY:Hid (DrM B a n z zs hi w Wc):=b2.out;have a4:Hid (StatR B w Wc.heap.size w2.heap.size br role):=⟨by omega,ay,hB,fun h=>absurd D h⟩;have bR:Hid (InvR B [] [] 0 w Wc.heap.size w2.heap.size (f+1) kd (.slice ra rn rc) role br Wc (.slice none 0 0) [] [] [] 0):=⟨RowK.nil _ _ _,by simp,fun x hx=>by simp at hx,Use.nil _ _ _ _ _ _,by rw [bs];exact bf.out,by rw [bs,D];exact RolR.nil _ _,aY.out.bt,Nat.le_refl _⟩;have aW:Hid (Use [] [] 0 0 (w.heap.size+1) Wc.heap.size (leafB br 0 role.length)):=by unfold Hid;rw [D];exact Use.nil _ _ _ _ _ _
   clear bs D bb bH bc;obtain ⟨i0,bE,bk,bj,bi⟩:=info_parts Tryz.infoCon4;go_wp2_with fail;go_loopw [7] (fun q wr=>∃ (m:Nat) (kv:Value) (cs:List CN) (Ls:List (List (Addr × IntKind))) (xs:List Value),m≤N∧q=.int .i64 m∧cs.length=m∧(bulks cs≤m*(1+4 ^ (f+1))∧wfL cs=true)∧InvR B [] [] 0 w Wc.heap.size w2.heap.size (f+1) kd (.slice ra rn rc) role br wr kv cs Ls xs 0∧InvW wr Ls.flatten (f+1) xs∧DrM B a n z zs hi w wr) (fun q _=>N - (intOf q).toNat)
   case atStart=>exact ⟨0,.slice none 0 0,[],[],[],Nat.zero_le _,rfl,rfl,⟨by simp [bulks],rfl⟩,bR.out,InvW.nil _ _ _,aY.out⟩
   case round =>
    obtain ⟨m,kv,cs,Ls,xs,hm,rfl,aR,af,aa,aQ,aN⟩:=hrel;have b4:Hid (InvW wr Ls.flatten (f+1) xs):=aQ;have HI:Hid (InvR B [] [] 0 w Wc.heap.size w2.heap.size (f+1) kd (.slice ra rn rc) role br wr kv cs Ls xs 0):=aa;have I:Hid (DrM B a n z zs hi w wr):=aN;have a5:Hid (cs.length=m):=aR;have ak:Hid (bulks cs≤m*(1+4 ^ (f+1))∧wfL cs=true):=af;clear aa aN aR af aQ;have bU:w2.heap.size<wr.heap.size:=HI.out.box.lt;have a7:Wc.heap.size≤wr.heap.size:=HI.out.sz;have bA:B<wr.heap.size:=by omega
    go_wp2_with fail;refine (l2kids_any kd wr).mono ?_;rintro e wk ⟨rfl,aJ⟩;rw [aJ,bh.out];clear aJ;by_cases bX:m<N
    · have bB:(m:Int)<(N:Int):=by omega
      obtain ⟨o0,o1,o2,o3⟩:=HI.out.box.cells;go_wp2_with fail
      first | go_region_law
       (first
       | (refine step_append_lies _ rfl (.tmp 50) (.tmp 55) 35 rfl Wc.heap.size 37 i0 (.agg #[.int .i64 0,.slice none 0 0,.slice none 0 0,.slice none 0 0]) 4 80 Tryz.underlying35 bE bk bj bi rfl (by decide) kv m xs (by simp [Act.eval]) ab.out ⟨w5.heap.size,0,none⟩ 1 1 [.int .i64 zk,.slice X U V,.slice T J O,.slice H F G] (by simp [Act.eval]) rfl (new4 _ _ _ _ _ _ _ rfl) (one4 _ _ _ _ _ _ _ _ _ _) (by decide) (by unfold maxLen;omega) (by omega) ax _ rfl ?_;intro g1 Z w6 a9 E aT bW;have HA:Hid (BoxC w6 w2.heap.size (.int .i64 kd) (.slice none 0 0) (.slice ra rn rc) kv∧InvR B [] [] 0 w Wc.heap.size w2.heap.size (f+1) kd (.slice ra rn rc) role br (w6.setCell ⟨w2.heap.size,3,none⟩ (.slice (some ⟨g1,0,none⟩) (m+1) Z)) (.slice (some ⟨g1,0,none⟩) (m+1) Z) (cs++[c]) (Ls++[L5]) (xs++[.int .i64 zk,.slice X U V,.slice T J O,.slice H F G]) 0):=InvR.app a4.out a2.out aj.out HI.out.us aV.out a7 au.out (Nat.le_refl 0) (Nat.le_refl 0) (by rw [a5.out]) a9 E aT;have aC:Hid (InvW (w6.setCell ⟨w2.heap.size,3,none⟩ (.slice (some ⟨g1,0,none⟩) (m+1) Z)) (Ls++[L5]).flatten (f+1) (xs++[.int .i64 zk,.slice X U V,.slice T J O,.slice H F G])):=InvW.step aD.out a4.out aj.out a7 HI.out.us aV.out au.out am.out E _;have aZ:Hid (DrM B a n z zs hi w w6):=aB.out.grown hB E bK.out av;obtain ⟨_,_,_,cd⟩:=HA.out.1.cells;have cn:=HA.out.1.frz 3;clear a9 E aT)
       | (go_simp;refine (ih wr.drew (I.out.cur.keepB (w':=wr.drew) (fun _ _=>rfl))).mono ?_;rintro e w5 hP;obtain ⟨y0,y1,y2,y3,c,L5,bF,a3,ar,aP,a6,aU,ag⟩:=hP;subst bF;obtain ⟨aq,⟨X,U,V,ap⟩,⟨T,J,O,ao⟩,⟨H,F,G,ae⟩⟩:=a3.ow.form;rw [aq,ap,ao,ae] at a3;rw [ae] at ar;rw [aq,ap,ao,ae];clear aq ap ao ae;obtain ⟨zk,an⟩:∃ zk,zk=c.kind:=⟨_,rfl⟩;rw [← an] at a3;rw [← an];have al:Hid (Bt B wr.heap.size wr w5):=(Bt.refl _ _ _).drew.trans ag;have a0:Hid (InvR B [] [] 0 w Wc.heap.size w2.heap.size (f+1) kd (.slice ra rn rc) role br w5 kv cs Ls xs 0):=HI.out.keep a4.out a2.out al.out;have Y:Hid (Below w5.heap.size w5 (w5.alloc (.cells #[.int .i64 zk,.slice X U V,.slice T J O,.slice H F G] 37))):=(Below.refl _ _).alloc (Nat.le_refl _) _;have aj:Hid (InvR B [] [] 0 w Wc.heap.size w2.heap.size (f+1) kd (.slice ra rn rc) role br (w5.alloc (.cells #[.int .i64 zk,.slice X U V,.slice T J O,.slice H F G] 37)) kv cs Ls xs 0):=a0.out.keep a4.out a2.out (Bt.of_below Y.out);have ad:Hid (DrM B a n z zs hi w w5):=⟨aU,I.out.bt.trans (al.out.mono I.out.bt.size),(al.out.block _ I.out.box.lt (by omega)).trans I.out.box⟩;have aB:Hid (DrM B a n z zs hi w (w5.alloc (.cells #[.int .i64 zk,.slice X U V,.slice T J O,.slice H F G] 37))):=ad.out.below hB Y.out;have au:Hid (OwnR [] [] 0 0 wr.heap.size (w5.alloc (.cells #[.int .i64 zk,.slice X U V,.slice T J O,.slice H F G] 37)) (f+1) (.agg #[.int .i64 zk,.slice X U V,.slice T J O,.slice H F G]) c L5):=OwnR.bt a3 a2.out bA (Bt.of_below Y.out) (Nat.le_of_lt ad.out.cur.lt);have ab:Hid ((w5.alloc (.cells #[.int .i64 zk,.slice X U V,.slice T J O,.slice H F G] 37)).ownsRow Wc.heap.size 37 4 kv m xs):=(by have:=aj.out.row.row;rw [a5.out] at this;exact this);have aV:Hid (∀ g,kv.ownBlock=some g→g<wr.heap.size):=(fun g hg=>(HI.out.row.row.lt g hg).2);have bK:Hid (∀ b,kv.ownBlock=some b→Wc.heap.size≤b):=(fun b e=>(HI.out.row.row.lt _ e).1);have ax:Wc.heap.size≤(w5.alloc (.cells #[.int .i64 zk,.slice X U V,.slice T J O,.slice H F G] 37)).heap.size:=aj.out.sz;have aD:Hid (InvW (w5.alloc (.cells #[.int .i64 zk,.slice X U V,.slice T J O,.slice H F G] 37)) Ls.flatten (f+1) xs):=InvW.bt (InvW.bt b4.out HI.out a4.out al.out) a0.out a4.out (Bt.of_below Y.out);have am:Hid (Wh (w5.alloc (.cells #[.int .i64 zk,.slice X U V,.slice T J O,.slice H F G] 37)) L5 (f+1) (.slice H F G)):=ar.keep (fun x hx=>Y.out.block _ (a3.us.lt a2.out (Nat.le_of_lt ad.out.cur.lt) x hx));have bQ:Hid (c.bulk≤4 ^ (f+1)):=aP;have aA:Hid (wfC c=true):=a6;obtain ⟨_,_,_,ce⟩:=a0.out.box.cells;have bY:w2.heap.size<w5.heap.size:=a0.out.box.lt;clear a6 ag aU aP a3 an ar)) | fail
      all_goals
       have bO:Hid (DrM B a n z zs hi w (w6.setCell ⟨w2.heap.size,3,none⟩ (.slice (some ⟨g1,0,none⟩) (m+1) Z))):=aZ.out.set hB (by omega) _;have b3:Hid ((cs++[c]).length=m+1∧(bulks (cs++[c])≤(m+1)*(1+4 ^ (f+1))∧wfL (cs++[c])=true)):=⟨by rw [List.length_append,a5.out];rfl,bulks_snoc ak.out.1 bQ.out,wfL_snoc ak.out.2 aA.out⟩;go_wp2_with fail;go_roundw
       case rel=>exact ⟨m+1,_,_,_,_,by omega,by go_num,b3.out.1,b3.out.2,HA.out.2,aC.out,bO.out⟩
       case measure=>simp [intOf];omega
    have bB:¬ (m:Int)<(N:Int):=by omega
    obtain ⟨aI,aG,aH,aO⟩:=HI.out.row.isSlice;rw [aO] at HI;obtain ⟨o0,o1,o2,o3⟩:=HI.out.box.cells;obtain ⟨z0,z1,z2,z3⟩:=I.out.box.cells;have b9:=I.out.box.frz 0;have b8:=I.out.box.frz 1;have b7:=I.out.box.frz 2;have b6:=I.out.box.frz 3;clear aO;go_wp2;obtain ⟨L,hL,bJ⟩:=whole_rows HI.out a2.out (i:=0) (s:=w.heap.size+1) (by omega) (by omega) (Nat.le_refl 0) (Nat.le_refl 0) aW.out b4.out (fun e=>by have:=a5.out;omega) (aW.out.lt a2.out (by omega));have af:(CN.mk kd [] role cs).bulk≤4 ^ (f+1+1):=bulk_node aX.out.1 ak.out.1 (by omega);have bo:wfC (CN.mk kd [] role cs)=true:=wf_node bD bC aX.out.2 (by rw [bh.out];have:=a5.out;omega) ak.out.2;obtain ⟨ah,_⟩:=set4_mem I.out.box (.int .i64 kd) (.slice none 0 0) (.slice ra rn rc) (.slice aI aG aH) I.out.bt (Nat.le_refl _);obtain ⟨s0,s1,s2,s3⟩:=ah.cells;refine bodyPost_ret (v:=.agg #[.int .i64 kd,.slice none 0 0,.slice ra rn rc,.slice aI aG aH]) (by simp [results, Tryz.results63,go_sem,s0,s1,s2,s3]) rfl ?_;exact DrM.fin I.out hB hL bJ af bo
 go_wp2_with fail;refine (l1Below_any bg.out.cur 8 (by omega)).mono ?_;rintro e w2 ⟨m,rfl,⟨cj,ci⟩,aS,aM⟩;have a1:Hid (DrM B a n z zs hi w w2):=bg.out.only hB aS aM;clear aS aM;obtain ⟨z0,z1,z2,z3⟩:=a1.out.box.cells;have b9:=a1.out.box.frz 0;have b8:=a1.out.box.frz 1;have b7:=a1.out.box.frz 2;have b6:=a1.out.box.frz 3;by_cases h0:m=0
 · subst h0;go_wp2;obtain ⟨ah,_⟩:=set4_mem a1.out.box (.int .i64 0) (.slice none 0 0) (.slice none 0 0) (.slice none 0 0) a1.out.bt (Nat.le_refl _);obtain ⟨s0,s1,s2,s3⟩:=ah.cells;refine bodyPost_ret (v:=.agg #[.int .i64 0,.slice none 0 0,.slice none 0 0,.slice none 0 0]) (by simp [results, Tryz.results63,go_sem,s0,s1,s2,s3]) rfl ?_;exact DrM.fin a1.out hB (ownR_nul 0 _ _ _) (Wh.nil _ _ _) (by simp [CN.bulk,bulks]) (by rw [wfC_eq];rfl)
 have cB:(m == 0)=false:=by simpa using h0
 by_cases h1:m=1
 · subst h1;go_wp2;obtain ⟨ah,_⟩:=set4_mem a1.out.box (.int .i64 1) (.slice none 0 0) (.slice none 0 0) (.slice none 0 0) a1.out.bt (Nat.le_refl _);obtain ⟨s0,s1,s2,s3⟩:=ah.cells;refine bodyPost_ret (v:=.agg #[.int .i64 1,.slice none 0 0,.slice none 0 0,.slice none 0 0]) (by simp [results, Tryz.results63,go_sem,s0,s1,s2,s3]) rfl ?_;exact DrM.fin a1.out hB (ownR_nul 1 _ _ _) (Wh.nil _ _ _) (by simp [CN.bulk,bulks]) (by rw [wfC_eq];rfl)
 have cA:(m == 1)=false:=by simpa using h1
 obtain ⟨W3,bd⟩:∃ W,Hid (W=w2.alloc (.cells #[.string { data:=#[65] },.string { data:=#[66] },.string { data:=#[67] }] 9)):=⟨_,rfl⟩;have ca:Below w2.heap.size w2 W3:=by rw [bd.out];exact (Below.refl _ _).alloc (Nat.le_refl _) _
 have bZ:w2.heap.size<W3.heap.size:=by rw [bd.out];simp
 have bL:Hid (∀ i:Nat,i<3→∃ s:ByteArray,W3.cell? ⟨w2.heap.size,i,none⟩=some (.string s)∧s.size≤1∧shapeB (.mk 2 (numsOf s) [] [])=true):=by
  intro i hi;rw [bd.out]
  match i,hi with
  | 0,_ | 1,_ | 2,_=>exact ⟨_,by simp;rfl,by decide,by kernel_rfl⟩
 have cb:Hid (DrM B a n z zs hi w W3):=a1.out.below hB ca;clear ca z0 z1 z2 z3 b9 b8 b7 b6;go_wp2_with fail;rw [← bd.out];refine (l1Below_any cb.out.cur 3 (by omega)).mono ?_;rintro e w4 ⟨x,rfl,⟨bn,bm⟩,c7,ba⟩;obtain ⟨j,hj⟩:∃ j:Nat,x=(j:Int):=⟨x.toNat,by omega⟩;subst hj;have cl:j<3:=by omega
 obtain ⟨s,aK,cg,a8⟩:=bL.out j cl;have bM:Hid (wfC (.mk 2 (numsOf s) [] [])=true):=by unfold Hid;rw [wfC_eq,a8];rfl
 clear a8;have cr:w.heap.size<w2.heap.size:=a1.out.box.lt;have cq:w4.cell? ⟨w2.heap.size,j,none⟩=some (.string s):=(World.cell?_of_block (w:=W3) (ba.other w2.heap.size bZ (by omega))).trans aK;have b2:Hid (DrM B a n z zs hi w w4):=cb.out.only hB c7 ba;have ct:w2.heap.size<w4.heap.size:=Nat.lt_of_lt_of_le bZ ba.below.size;have ck:(j:Int)<3:=by omega
 obtain ⟨W8,ai⟩:∃ W,Hid (W=Lib.bytesWorld w4 5 s):=⟨_,rfl⟩;obtain ⟨cp,b5⟩:∃ cp,Hid (cp=grownCap w4 s.size 0 5):=⟨_,rfl⟩
 have c5:(convert 9 22 (.string s)).run Tryz.prog w4=.ok (.slice (some ⟨w4.heap.size,0,none⟩) s.size cp) W8:=by
  rw [ai.out,b5.out];exact Lib.run_convert_string_bytes w4 9 22 5 s Tryz.underlying9 Tryz.underlying22 Tryz.underlying5
 have aE:Below w4.heap.size w4 W8:=by rw [ai.out];exact bytes_below w4 5 s
 have bp:w4.heap.size<W8.heap.size:=by rw [ai.out,Lib.bytesWorld_size];omega
 have ac:Hid (DrM B a n z zs hi w W8):=b2.out.below hB aE;have be:Hid (RolR W8 (.slice (some ⟨w4.heap.size,0,none⟩) s.size cp) (numsOf s) w4.heap.size):=by unfold Hid;rw [ai.out,b5.out];exact rol_conv w4 s (by omega)
 clear aK c7 ba aE bn bm;obtain ⟨z0,z1,z2,z3⟩:=ac.out.box.cells;have b9:=ac.out.box.frz 0;have b8:=ac.out.box.frz 1;have b7:=ac.out.box.frz 2;have b6:=ac.out.box.frz 3;go_wp2;obtain ⟨ah,_⟩:=set4_mem ac.out.box (.int .i64 2) (.slice (some ⟨w4.heap.size,0,none⟩) s.size cp) (.slice none 0 0) (.slice none 0 0) ac.out.bt (Nat.le_refl _);obtain ⟨s0,s1,s2,s3⟩:=ah.cells;refine bodyPost_ret (v:=.agg #[.int .i64 2,.slice (some ⟨w4.heap.size,0,none⟩) s.size cp,.slice none 0 0,.slice none 0 0]) (by simp [results, Tryz.results63,go_sem,s0,s1,s2,s3]) rfl ?_;exact DrM.fin ac.out hB (ownR_name be.out (by omega) bp) (Wh.nil _ _ _) (by have:=four_le (f+1);simp [CN.bulk,bulks,numsOf_len];omega) bM.out
theorem l2draw_any:∀ (f:Nat),f≤1000→∀ {B:Nat} {a:Option Addr} {n z:Nat} {zs:List Int} {hi:Nat} {w:World},Cur w B a n z zs hi→Calls Tryz.prog 63 #[.pointer (some ⟨B,0,none⟩),.int .i64 f] w (DcP B a n z zs hi f w)
 | 0,_,_,_,_,_,_,_,_,c=>l2draw_zero c
 | f+1,h,_,_,_,_,_,_,_,c=>l2draw_succ f (by omega) (fun _=>l2draw_any f (by omega)) c
end

section
open Go.RowKit
theorem shape_kids {c:CN} (h:shapeB c=true):c.kids.length≤2:=by
 unfold shapeB at h;simp only [Bool.and_eq_true,decide_eq_true_eq] at h;have h3:=h.2.2;unfold kidN at h3
 split at h3
 · omega
 split at h3
 · omega
 split at h3 <;> omega
theorem RdC.kids {lo hi d:Nat} {w:World} {v:Value} {c:CN} (h:RdC lo hi w (d+1) v c):∀ j,j<c.kids.length→∃ v',RdC lo hi w d v' (c.kids.getD j CN.zero):=by
 obtain ⟨na,nn,nc,ra,rn,rc,ka,kn,kc,_,_,_,hk⟩:=h;intro j hj;rcases hk.cells with h0 | ⟨b,off,_,_,_,hc⟩
 · have:=hk.len;omega
 obtain ⟨v0,v1,v2,v3,_,_,_,_,hr⟩:=hc j (by rw [← hk.len];exact hj);exact ⟨_,hr⟩
theorem partsL_small (D:Nat):∀ (cs:List CN) (k:Nat),(∀ j,j<cs.length→(parts (cs.getD j CN.zero) k).length+1≤2 ^ D∧∀ p∈parts (cs.getD j CN.zero) k,p.1<k+D∧shapeB p.2=true) →
    (partsL cs k).length+cs.length≤cs.length*2 ^ D∧∀ p∈partsL cs k,p.1<k+D∧shapeB p.2=true
 | [],k,_=>by simp [partsL]
 | c :: cs,k,h=>by
  have h1:=h 0 (by simp);have h2:=partsL_small D cs k (fun j hj=>by have:=h (j+1) (by simp;omega);simpa using this);simp only [List.getD_cons_zero] at h1;rw [partsL];refine ⟨?_,fun p hp=>?_⟩
  · rw [List.length_append,List.length_cons,Nat.add_mul,Nat.one_mul];omega
  rcases List.mem_append.1 hp with hp | hp
  · exact h1.2 p hp
  exact h2.2 p hp
theorem rd_small {lo hi:Nat} {w:World}:∀ (d:Nat) (v:Value) (c:CN),RdC lo hi w d v c→wfC c=true→∀ k,(parts c k).length+1≤2 ^ d∧∀ p∈parts c k,p.1<k+d∧shapeB p.2=true
 | 0,_,_,h,_,_=>h.elim
 | d+1,v,c,h,hw,k=>by
  rw [wfC_eq,Bool.and_eq_true] at hw;have hk:=h.kids;have hl:=shape_kids hw.1
  obtain ⟨h1,h2⟩:=partsL_small d c.kids (k+1) (fun j hj=>by
   obtain ⟨v',hv⟩:=hk j hj
   exact rd_small d v' _ hv (wfL_getD _ j hj hw.2) (k+1))
  rw [parts_eq];refine ⟨?_,fun p hp=>?_⟩
  · rw [List.length_cons,Nat.pow_succ];have hp:0<2 ^ d:=Nat.pow_pos (by omega);have:c.kids.length=0∨c.kids.length=1∨c.kids.length=2:=by omega
    rcases this with e | e | e <;> rw [e] at h1 <;> omega
  rcases List.mem_cons.1 hp with e | hp
  · subst e;exact ⟨by show k<k+(d+1);omega,hw.1⟩
  have:=h2 p hp;exact ⟨by omega,this.2⟩
theorem ok_small {lo hi d:Nat} {w:World} {v:Value} {c:CN} (h:RdC lo hi w d v c) (hd:d≤3) (hw:wfC c=true):conOk c=true:=by
 obtain ⟨h1,h2⟩:=rd_small d v c h hw 1;unfold conOk;rw [Bool.and_eq_true];refine ⟨?_,List.all_eq_true.2 (fun p hp=>?_)⟩
 · have:2 ^ d≤2 ^ 3:=Nat.pow_le_pow_right (by omega) hd;exact decide_eq_true (by omega)
 have:=h2 p hp;unfold okOne;rw [Bool.and_eq_true];exact ⟨decide_eq_true (by omega),this.2⟩
end

end Go.Proofs.YtocpeiaolofodaaGreat
