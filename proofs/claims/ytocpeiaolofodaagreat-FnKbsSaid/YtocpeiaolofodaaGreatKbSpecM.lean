/- The specification's words of a concept and of all that is told. -/
import Derived.Test.YtocpeiaolofodaaGreatNG11
import Derived.Maps.AppendAt
import Derived.Test.YtocpeiaolofodaaGreatNG1
import Derived.RangeFuncBox
import Derived.Deep.RegionHeld3
import Derived.Deep.DeepCutAuto
namespace Go.Proofs.YtocpeiaolofodaaGreat
section
open Go.RowKit
theorem Tryz.infoBS:(Tryz.prog.info? 22).map (fun i=>(i.zero,i.size,i.bytes))=some (some (.slice none 0 0),1,24):=by kernel_rfl
theorem Tryz.undBSS:Tryz.prog.underlying 46=some (.slice 22):=by kernel_rfl
def RW (base lo hi:Nat) (w:World) (v:Value) (L:List (List Int)):Prop:=∃ xs,w.ownsRow base 22 1 v L.length xs∧∀ i,i<L.length→SlB lo hi w (xs.getD i undef) (L.getD i [])
theorem RW.nil (base lo hi:Nat) (w:World):RW base lo hi w (.slice none 0 0) []:=⟨[],⟨rfl,.inl ⟨rfl,rfl⟩⟩,fun i hi=>absurd hi (by simp)⟩
theorem RW.slice {base lo hi:Nat} {w:World} {v:Value} {L:List (List Int)} (h:RW base lo hi w v L) (h1:lo≤base) (h2:hi≤w.heap.size):∃ a D,v=.slice a L.length D∧RSS lo w.heap.size w a L.length D L:=by
 obtain ⟨xs,⟨hl,hx⟩,hr⟩:=h;rcases hx with ⟨rfl,h0⟩ | ⟨g,D,cur,rfl,hg,hb,hn,hc,hs,ht⟩
 · refine ⟨none,0,by rw [h0],⟨rfl,⟨by omega,by omega⟩,.inl h0⟩⟩
 refine ⟨_,_,rfl,⟨rfl,⟨hn,by unfold maxLen at hc;omega⟩,.inr ⟨g,0,rfl,by omega,(Array.getElem?_eq_some_iff.1 hb).1,fun i hi=>⟨xs.getD i undef,?_,(hr i hi).mono (Nat.le_refl _) h2⟩⟩⟩⟩;have cS:i<cur.size:=by omega
 have e:xs[i]?=some cur[i]:=by
  rw [← ht,List.getElem?_take_of_lt (by omega)];simp [cS]
 rw [Nat.zero_add];simp [World.cell?,hb,List.getD,e]
theorem RW.word {base lo hi:Nat} {w w':World} {v':Value} {L:List (List Int)} {wd:List Int} {x:Value} {xs:List Value} (h:∀ i,i<L.length→SlB lo hi w (xs.getD i undef) (L.getD i [])) (hl:xs.length=L.length) (hx:SlB lo hi w x wd) (hs:Same lo hi w w')
    (ho:w'.ownsRow base 22 1 v' (L.length+1) (xs++[x])):RW base lo hi w' v' (L++[wd]):=by
 refine ⟨xs++[x],by rw [List.length_append];exact ho,fun i hi=>?_⟩;by_cases e:i<L.length
 · have e1:(xs++[x]).getD i undef=xs.getD i undef:=by simp [List.getD,List.getElem?_append_left (show i<xs.length by omega)]
   have e2:(L++[wd]).getD i []=L.getD i []:=by simp [List.getD,List.getElem?_append_left e]
   rw [e1,e2];exact (h i e).same hs
 have ei:i=L.length:=by simp at hi;omega
 subst ei;have e1:(xs++[x]).getD L.length undef=x:=by simp [List.getD,← hl]
 have e2:(L++[wd]).getD L.length []=wd:=by simp [List.getD]
 rw [e1,e2];exact hx.same hs
theorem insF_len (wd:List Int):∀ l,(insF l wd).1.length≤2*l.length:=by
 refine snoc_ind (P:=fun l=>(insF l wd).1.length≤2*l.length) (by simp [insF]) (fun l x ih=>?_);rw [insF_snoc];unfold insS;rw [List.length_append];simp only
 split <;> split <;> simp <;> omega
theorem insS_f0 {wd x:List Int} {o:List (List Int)} (h:cmpZ wd x=0):insS wd (o,false) x=(o++[wd],true):=by simp [insS,h]
theorem insS_fn {wd x:List Int} {o:List (List Int)} (h:cmpZ wd x<0):insS wd (o,false) x=(o++[wd]++[x],true):=by
 have h1:cmpZ wd x≤0:=by omega
 have h2:¬ cmpZ wd x=0:=by omega
 simp [insS,h1,h2]
theorem insS_fp {wd x:List Int} {o:List (List Int)} (h:0<cmpZ wd x):insS wd (o,false) x=(o++[x],false):=by
 have h1:¬ cmpZ wd x≤0:=by omega
 have h2:¬ cmpZ wd x=0:=by omega
 simp [insS,h1,h2]
theorem insS_t0 {wd x:List Int} {o:List (List Int)} (h:cmpZ wd x=0):insS wd (o,true) x=(o,true):=by simp [insS,h]
theorem insS_tn {wd x:List Int} {o:List (List Int)} (h:¬ cmpZ wd x=0):insS wd (o,true) x=(o++[x],true):=by simp [insS,h]
theorem own_ge {w:World} {base e size n:Nat} {v:Value} {xs:List Value} (h:w.ownsRow base e size v n xs):∀ k,v.ownBlock=some k→base≤k:=by
 intro k hk;rcases h.2 with ⟨rfl,_⟩ | ⟨g,D,cur,rfl,hg,_⟩
 · cases hk
 cases hk;exact hg
theorem own_len {w:World} {base e n:Nat} {v:Value} {xs:List Value} (h:w.ownsRow base e 1 v n xs):xs.length=n:=by have:=h.1;omega
set_option maxRecDepth 100000 in
set_option maxHeartbeats 2000000 in
theorem l2insert_any (a:Option Addr) (n D:Nat) (L:List (List Int)) (wa:Option Addr) (wn wc:Nat) (wd:List Int) (w:World) {lo hi:Nat} (h:RSS lo hi w a n D L) (hw:Rd lo hi w wa wn wc wd) (N:hi≤w.heap.size) (hn:n≤1048576) :
    Calls Tryz.prog 46 #[.slice a n D,.slice wa wn wc] w fun e w'=>∃ v,e=.returned v∧RW w.heap.size lo hi w' v (insW L wd)∧Below w.heap.size w w':=by
 have HR:Hid (RSS lo hi w a n D L):=h;have HW:Hid (Rd lo hi w wa wn wc wd):=hw;have HL:Hid (L.length=n):=h.len;have hf:=h.fits;clear h hw;obtain ⟨i0,bL,bH,bG,bF⟩:=info_parts Tryz.infoBS;go_enter Tryz.func46, Tryz.ntmps46;go_wp2_with fail;go_loopw [5,6,7] (fun u p i wr=>∃ (j:Nat) (ov:Value),j≤n∧i=.int .i64 j∧ov=u∧p=.bool (insF (L.take j) wd).2∧RW w.heap.size lo hi wr ov (insF (L.take j) wd).1∧Below w.heap.size w wr) (fun _ _ i _=>n - (intOf i).toNat)
 case atStart=>exact ⟨0,_,Nat.zero_le _,rfl,rfl,rfl,RW.nil _ _ _ _,Below.refl _ _⟩
 case round =>
  obtain ⟨j,ov,hj,rfl,rfl,rfl,c5,z⟩:=hrel;have cj:=insF_len wd (L.take j)
  have aF:Hid (j=n→insW L wd=if (insF (L.take j) wd).2=true then (insF (L.take j) wd).1 else (insF (L.take j) wd).1++[wd]):=by
   intro e;unfold insW;rw [List.take_of_length_le (by rw [HL.out];omega)]
  have ai:Hid (j<n→insF (L.take (j+1)) wd=insS wd (insF (L.take j) wd) (L.getD j [])):=fun e=>insF_take L wd j (by rw [HL.out];exact e)
  obtain ⟨o,p,hs⟩:∃ o p,insF (L.take j) wd=(o,p):=⟨_,_,rfl⟩;rw [hs] at c5 cj aF ai ⊢;have cj:o.length≤2*1048576:=by simp only [List.length_take] at cj;omega
  clear hs;obtain ⟨xs,b6,cG⟩:=c5;have bQ:=own_len b6;have HO:Hid (wr.ownsRow w.heap.size 22 1 ov o.length xs):=b6;have HX:Hid (∀ i,i<o.length→SlB lo hi wr (xs.getD i undef) (o.getD i [])):=cG;have HB:Hid (Below w.heap.size w wr):=z;have bh:Hid (Rd lo hi wr wa wn wc wd):=HW.out.same (Same.of_below z N);have dc:w.heap.size≤wr.heap.size:=z.size;have bX:Hid (∀ k,ov.ownBlock=some k→w.heap.size≤k):=own_ge b6;clear b6 cG;by_cases hlt:j<n
  · have hR:=HR.out.same (Same.of_below z N);rcases hR.cells with hz | ⟨b,off,e1,_,bA,hc⟩
    · omega
    subst e1;obtain ⟨v,c0,ea,en,ec,rfl,hr⟩:=hc j hlt;have HE:Hid (Rd lo hi wr ea en ec (L.getD j [])):=hr;have bo:(j:Int)<(n:Int):=by omega
    obtain ⟨kz,cJ⟩:∃ kz,kz=cmpZ wd (L.getD j []):=⟨_,rfl⟩;have bN:Hid (kz=cmpZ wd (L.getD j [])):=cJ;have aG:Hid (insF (L.take (j+1)) wd=insS wd (o,p) (L.getD j [])):=ai.out hlt;clear hR hc hr z cJ ai aF;go_wp2_with fail;refine (l2bytes_any bh.out HE.out).mono ?_;rintro e w1 ⟨rfl,b9⟩;rw [b9,← bN.out];clear b9;cases p
    · by_cases hk0:kz≤0
      · by_cases bS:kz=0
        · have aq:Hid (insF (L.take (j+1)) wd=(o++[wd],true)):=aG.out.trans (insS_f0 (by rw [← bN.out];exact bS));clear aG;go_wp2_with (first | (at_builtin;refine wpList_append_own _ rfl (.tmp 27) (.tmp 29) 46 rfl w.heap.size 22 i0 (.slice none 0 0) 1 24 Tryz.undBSS bL bH bG bF rfl (by decide) ov o.length xs rfl (HO.out.alloc _) ⟨wr.heap.size,0,none⟩ 1 1 [.slice wa wn wc] rfl rfl (cell_one_new _ _ _) (by simp [Value.oneCell']) (by unfold maxLen;omega) (by omega) (by simp;omega) ?_;intro v1 w1 a4 J au) | fail);go_roundw
          case rel =>
           have a6:=(HB.out.alloc HB.out.size (.cells #[.slice wa wn wc] 22)).grown J (by simp;omega) bX.out;refine ⟨j+1,v1,by omega,by go_num,rfl,by rw [aq.out],?_,a6⟩;rw [aq.out];exact RW.word (w:=wr) HX.out bQ ⟨_,_,_,rfl,bh.out⟩ (fun b h1 h2=>(a6.block b (by omega)).trans (HB.out.block b (by omega)).symm) a4
          case measure=>simp [intOf];omega
        have aq:Hid (insF (L.take (j+1)) wd=(o++[wd]++[L.getD j []],true)):=aG.out.trans (insS_fn (by rw [← bN.out];omega));clear aG;go_upto_if 32 with (first | (at_builtin;refine wpList_append_own _ rfl (.tmp 27) (.tmp 29) 46 rfl w.heap.size 22 i0 (.slice none 0 0) 1 24 Tryz.undBSS bL bH bG bF rfl (by decide) ov o.length xs rfl (HO.out.alloc _) ⟨wr.heap.size,0,none⟩ 1 1 [.slice wa wn wc] rfl rfl (cell_one_new _ _ _) (by simp [Value.oneCell']) (by unfold maxLen;omega) (by omega) (by simp;omega) ?_;intro v1 w1 a4 J au) | fail)
        have a6:=(HB.out.alloc HB.out.size (.cells #[.slice wa wn wc] 22)).grown J (by simp;omega) bX.out;have ar:Hid (Below w.heap.size w w1):=a6;have c1:w1.cell? ⟨b,off+j,none⟩=some (.slice ea en ec):=(World.cell?_of_block (a:=⟨b,off+j,none⟩) ((a6.block b (by omega)).trans (HB.out.block b (by omega)).symm)).trans c0;have T:=RW.word (w:=wr) HX.out bQ ⟨_,_,_,rfl,bh.out⟩ (fun b h1 h2=>(a6.block b (by omega)).trans (HB.out.block b (by omega)).symm) a4;have b4:Hid (Rd lo hi w1 ea en ec (L.getD j [])):=HE.out.same (fun b h1 h2=>(a6.block b (by omega)).trans (HB.out.block b (by omega)).symm);obtain ⟨ys,cg,cF⟩:=T;have cX:Hid (w1.ownsRow w.heap.size 22 1 v1 (o++[wd]).length ys):=cg;have cW:Hid (∀ i,i<(o++[wd]).length→SlB lo hi w1 (ys.getD i undef) ((o++[wd]).getD i [])):=cF;have cN:=own_len cg;have cA:Hid (∀ k,v1.ownBlock=some k→w.heap.size≤k):=own_ge cg;have dd:=a6.size;have d7:(o++[wd]).length≤2*1048576+1:=by simp;omega
        clear cg cF a6 a4 J au c0;go_wp2_with (first | (at_builtin;refine wpList_append_own _ rfl (.tmp 33) (.tmp 38) 46 rfl w.heap.size 22 i0 (.slice none 0 0) 1 24 Tryz.undBSS bL bH bG bF rfl (by decide) v1 (o++[wd]).length ys rfl (cX.out.alloc _) ⟨w1.heap.size,0,none⟩ 1 1 [.slice ea en ec] rfl rfl (cell_one_new _ _ _) (by simp [Value.oneCell']) (by unfold maxLen;omega) (by omega) (by simp;omega) ?_;intro v2 w2 cb bD cL) | fail);go_roundw
        case rel =>
         have a6:=(ar.out.alloc ar.out.size (.cells #[.slice ea en ec] 22)).grown bD (by simp;omega) cA.out;refine ⟨j+1,v2,by omega,by go_num,rfl,by rw [aq.out],?_,a6⟩;rw [aq.out];exact RW.word (w:=w1) cW.out cN ⟨_,_,_,rfl,b4.out⟩ (fun b h1 h2=>(a6.block b (by omega)).trans (ar.out.block b (by omega)).symm) cb
        case measure=>simp [intOf];omega
      have aq:Hid (insF (L.take (j+1)) wd=(o++[L.getD j []],false)):=aG.out.trans (insS_fp (by rw [← bN.out];omega));have bS:¬ kz=0:=by omega
      clear aG;go_wp2_with (first | (at_builtin;refine wpList_append_own _ rfl (.tmp 33) (.tmp 38) 46 rfl w.heap.size 22 i0 (.slice none 0 0) 1 24 Tryz.undBSS bL bH bG bF rfl (by decide) ov o.length xs rfl (HO.out.alloc _) ⟨wr.heap.size,0,none⟩ 1 1 [.slice ea en ec] rfl rfl (cell_one_new _ _ _) (by simp [Value.oneCell']) (by unfold maxLen;omega) (by omega) (by simp;omega) ?_;intro v1 w1 a4 J au) | fail);go_roundw
      case rel =>
       have a6:=(HB.out.alloc HB.out.size (.cells #[.slice ea en ec] 22)).grown J (by simp;omega) bX.out;refine ⟨j+1,v1,by omega,by go_num,rfl,by rw [aq.out],?_,a6⟩;rw [aq.out];exact RW.word (w:=wr) HX.out bQ ⟨_,_,_,rfl,HE.out⟩ (fun b h1 h2=>(a6.block b (by omega)).trans (HB.out.block b (by omega)).symm) a4
      case measure=>simp [intOf];omega
    by_cases bS:kz=0
    · have aq:Hid (insF (L.take (j+1)) wd=(o,true)):=aG.out.trans (insS_t0 (by rw [← bN.out];exact bS));clear aG;go_wp2_with fail;go_roundw
      case rel=>exact ⟨j+1,ov,by omega,by go_num,rfl,by rw [aq.out],by rw [aq.out];exact ⟨xs,HO.out,HX.out⟩,HB.out⟩
      case measure=>simp [intOf];omega
    have aq:Hid (insF (L.take (j+1)) wd=(o++[L.getD j []],true)):=aG.out.trans (insS_tn (by rw [← bN.out];exact bS));clear aG;go_wp2_with (first | (at_builtin;refine wpList_append_own _ rfl (.tmp 33) (.tmp 38) 46 rfl w.heap.size 22 i0 (.slice none 0 0) 1 24 Tryz.undBSS bL bH bG bF rfl (by decide) ov o.length xs rfl (HO.out.alloc _) ⟨wr.heap.size,0,none⟩ 1 1 [.slice ea en ec] rfl rfl (cell_one_new _ _ _) (by simp [Value.oneCell']) (by unfold maxLen;omega) (by omega) (by simp;omega) ?_;intro v1 w1 a4 J au) | fail);go_roundw
    case rel =>
     have a6:=(HB.out.alloc HB.out.size (.cells #[.slice ea en ec] 22)).grown J (by simp;omega) bX.out;refine ⟨j+1,v1,by omega,by go_num,rfl,by rw [aq.out],?_,a6⟩;rw [aq.out];exact RW.word (w:=wr) HX.out bQ ⟨_,_,_,rfl,HE.out⟩ (fun b h1 h2=>(a6.block b (by omega)).trans (HB.out.block b (by omega)).symm) a4
    case measure=>simp [intOf];omega
  have HE:=aF.out (by omega);cases p
  · have cp:Hid (insW L wd=o++[wd]):=by unfold Hid;rw [HE];rfl
    clear HE z aF ai;go_wp2_with (first | (at_builtin;refine wpList_append_own _ rfl (.tmp 42) (.tmp 44) 46 rfl w.heap.size 22 i0 (.slice none 0 0) 1 24 Tryz.undBSS bL bH bG bF rfl (by decide) ov o.length xs rfl (HO.out.alloc _) ⟨wr.heap.size,0,none⟩ 1 1 [.slice wa wn wc] rfl rfl (cell_one_new _ _ _) (by simp [Value.oneCell']) (by unfold maxLen;omega) (by omega) (by simp;omega) ?_;intro v' w' cc bE cM) | fail);go_ret;have a6:=(HB.out.alloc HB.out.size (.cells #[.slice wa wn wc] 22)).grown bE (by simp;omega) bX.out;refine ⟨_,rfl,?_,a6⟩;rw [cp.out];exact RW.word (w:=wr) HX.out bQ ⟨_,_,_,rfl,bh.out⟩ (fun b h1 h2=>(a6.block b (by omega)).trans (HB.out.block b (by omega)).symm) cc
  have cp:Hid (insW L wd=o):=by unfold Hid;rw [HE];rfl
  clear HE z aF ai;go_wp2_with fail;go_ret;refine ⟨_,rfl,?_,HB.out⟩;rw [cp.out];exact ⟨xs,HO.out,HX.out⟩
end
section
open Go.RowKit
theorem partsL_byt {cs:List CN} {deep:Nat} (h:BytP (partsL cs deep)) (j:Nat):BytP (partsL (cs.take j) deep):=fun p hp=>h p (by rw [partsL_take_drop cs j];exact List.mem_append_left _ hp)
theorem partsL_take_le (cs:List CN) (deep j:Nat) (h:j<cs.length):(partsL (cs.take j) deep).length+(parts (cs.getD j CN.zero) deep).length≤(partsL cs deep).length:=by
 have h1:=partsL_take_succ cs j deep h;have h2:=partsL_take_drop cs (j+1) deep;rw [h2,h1,List.length_append,List.length_append];omega
def NmP (d:Nat):Prop:=∀ (deep:Nat) (v:Value) (c:CN) (w:World) (a:Option Addr) (n D:Nat) (L:List (List Int)) (lo hi:Nat),RdC lo hi w d v c→RSS lo hi w a n D L→hi≤w.heap.size→lo≤w.heap.size→GoodV L→n+(parts c deep).length≤1048576 →
 Calls Tryz.prog 44 #[.slice a n D,v] w fun e w'=>∃ a' n' c',e=.returned (.slice a' n' c')∧RSS lo w'.heap.size w' a' n' c' (namesC c L)∧Below w.heap.size w w'
set_option maxRecDepth 100000 in
set_option maxHeartbeats 2000000 in
theorem NmP_of {d:Nat} (H:NmP d):NmP (d+1):=by
 intro deep v c w a n D L lo hi h hl N av ag bp;have bC:Hid (BytP (parts c deep)):=h.byts deep;obtain ⟨na,nn,nc,ra,rn,rc,ka,kn,kc,rfl,bK,bJ,hk⟩:=h;have b3:Hid (c.kids.length=kn):=hk.len;have cR:=hk.fits;have HC:Hid (namesC c L=namesL c.kids (if c.kind=2 then insW L c.name else L)):=namesC_eq c L;have HP:Hid (parts c deep=(deep,c) :: partsL c.kids (deep+1)):=parts_eq c deep;have ck:L.length=n:=hl.len;have cV:n+1+(partsL c.kids (deep+1)).length≤1048576:=by have:=HP.out;rw [this] at bp;simp at bp;omega
 have c4:Hid (BytP (partsL c.kids (deep+1))):=fun p hp=>bC.out p (by rw [HP.out];exact List.mem_cons_of_mem _ hp)
 have bh:Hid (Rd lo hi w na nn nc c.name):=bK;have aH:Byt c.name:=bK.byte;have bW:Hid (RSS lo hi w a n D L):=hl;have HK:Hid (RdL (RdC lo hi w d) lo hi w ka kn kc c.kids):=hk;have HG:Hid (GoodV L):=ag;have cl:Hid (c.name.length=nn):=bK.len;obtain ⟨k,bm⟩:∃ k,k=c.kind:=⟨_,rfl⟩;rw [← bm];obtain ⟨W1,aI⟩:∃ W1,W1=w.alloc (.cells #[.int .i64 k,.slice na nn nc,.slice ra rn rc,.slice ka kn kc] 37):=⟨_,rfl⟩;have ah:Below w.heap.size w W1:=by rw [aI];exact (Below.refl _ _).alloc (Nat.le_refl _) _
 have a0:Hid (Below w.heap.size w W1):=ah;have U:Hid (BoxC W1 w.heap.size (.int .i64 k) (.slice na nn nc) (.slice ra rn rc) (.slice ka kn kc)):=by unfold Hid;rw [aI];exact BoxC.new w _ _ _ _
 have bq:Hid (W1=w.alloc (.cells #[.int .i64 k,.slice na nn nc,.slice ra rn rc,.slice ka kn kc] 37)):=aI;have cn:Hid (k=c.kind):=bm;have cP:=ah.size;clear hk bm ah aI bK bJ hl ag bp;by_cases hcase:k=2
 · have b4:Hid ((if c.kind=2 then insW L c.name else L)=insW L c.name):=by unfold Hid;rw [← cn.out,if_pos hcase]
   have aC:Hid (GoodV (insW L c.name)):=HG.out.ins aH;have bU:(insW L c.name).length≤n+1:=by have:=(insW_len aH HG.out.srt HG.out.byt).2;omega
   have hd:(k == 2)=true:=by simpa using hcase
   clear hcase;clear aH;go_enter Tryz.func44, Tryz.ntmps44;go_wp2_with fail;rw [← bq.out];refine (l2insert_any a n D L na nn nc c.name W1 (bW.out.below a0.out N) (bh.out.same (Same.of_below a0.out N)) (Nat.le_trans N a0.out.size) (by omega)).mono ?_;rintro e w1 ⟨v1,rfl,ae,I⟩;obtain ⟨a1,c1,rfl,T⟩:=ae.slice (Nat.le_trans av a0.out.size) (Nat.le_trans N (Nat.le_trans a0.out.size I.size));obtain ⟨n1,a8⟩:∃ n1,n1=(insW L c.name).length:=⟨_,rfl⟩;rw [← a8] at T bU ⊢;have ax:Hid (RSS lo w1.heap.size w1 a1 n1 c1 (insW L c.name)):=T;have ar:Hid (Below w.heap.size w w1):=a0.out.trans (I.mono a0.out.size);have ad:Hid (BoxC w1 w.heap.size (.int .i64 k) (.slice na nn nc) (.slice ra rn rc) (.slice ka kn kc)):=U.out.below I U.out.lt;obtain ⟨q0,q1,q2,q3⟩:=ad.out.cells;have bu:Hid ((insW L c.name).length=n1):=a8.symm;clear ae I T a8;go_wp2_with fail;go_loopw [0,5] (fun l i wr=>∃ (j:Nat) (la:Option Addr) (ln lc:Nat),j≤kn∧i=.int .i64 j∧l=.slice la ln lc∧RSS lo wr.heap.size wr la ln lc (namesL (c.kids.take j) (insW L c.name))∧Below w.heap.size w wr∧BoxC wr w.heap.size (.int .i64 k) (.slice na nn nc) (.slice ra rn rc) (.slice ka kn kc)) (fun _ i _=>kn - (intOf i).toNat)
   case atStart=>exact ⟨0,_,_,_,Nat.zero_le _,rfl,rfl,by simp only [List.take_zero,namesL];exact ax.out,ar.out,ad.out⟩
   case round =>
    obtain ⟨j,la,ln,lc,hj,rfl,rfl,E,z,A⟩:=hrel;obtain ⟨p0,p1,p2,p3⟩:=A.cells;have Z:Hid (Below w.heap.size w wr):=z;have G:Hid (BoxC wr w.heap.size (.int .i64 k) (.slice na nn nc) (.slice ra rn rc) (.slice ka kn kc)):=A;have Y:Hid (RSS lo wr.heap.size wr la ln lc (namesL (c.kids.take j) (insW L c.name))):=E;by_cases hlt:j<kn
    · have a7:j<c.kids.length:=by rw [b3.out];exact hlt
      have hR:=HK.out.same (Same.of_below z N);rcases hR.cells with hz | ⟨b,off,e1,_,_,hc⟩
      · omega
      subst e1;obtain ⟨v0,v1,v2,v3,c0,c1,c2,c3,hr⟩:=hc j hlt;have ap:Hid (RdC lo wr.heap.size wr d (.agg #[v0,v1,v2,v3]) (c.kids.getD j CN.zero)):=hr.mono (Nat.le_refl _) (Nat.le_trans N z.size);have bo:(j:Int)<(kn:Int):=by omega
      have a9:=GoodV.nm aC.out (partsL_byt c4.out j);rw [← namesL_parts] at a9;have bx:Hid (GoodV (namesL (c.kids.take j) (insW L c.name))):=a9.1
      have bz:Hid (ln+(parts (c.kids.getD j CN.zero) (deep+1)).length≤1048576):=by
       have h1:=a9.2;rw [Y.out.len,bu.out] at h1;have h2:=partsL_take_le c.kids (deep+1) j a7;unfold Hid;omega
      have HS:Hid (namesL (c.kids.take (j+1)) (insW L c.name)=namesC (c.kids.getD j CN.zero) (namesL (c.kids.take j) (insW L c.name))):=namesL_take _ _ _ a7;have a5:lo≤wr.heap.size:=Nat.le_trans av z.size;clear hR hc hr z A E a9;go_wp2_with fail;refine (H (deep+1) (.agg #[v0,v1,v2,v3]) (c.kids.getD j CN.zero) wr la ln lc _ lo wr.heap.size ap.out Y.out (Nat.le_refl _) a5 bx.out bz.out).mono ?_;rintro e w' ⟨a',n',c',rfl,aD,ak⟩;have aE:Hid (RSS lo w'.heap.size w' a' n' c' (namesL (c.kids.take (j+1)) (insW L c.name))):=by unfold Hid;rw [HS.out];exact aD
      have af:Hid (Below w.heap.size w w'):=Z.out.trans (ak.mono Z.out.size);have F:Hid (BoxC w' w.heap.size (.int .i64 k) (.slice na nn nc) (.slice ra rn rc) (.slice (some ⟨b,off,none⟩) kn kc)):=G.out.below ak G.out.lt;clear ak aD;go_wp2_with fail;go_roundw
      case rel=>exact ⟨j+1,a',n',c',by omega,by go_num,rfl,aE.out,af.out,F.out⟩
      case measure=>simp [intOf];omega
    have HE:Hid (namesC c L=namesL (c.kids.take j) (insW L c.name)):=by unfold Hid;rw [HC.out,b4.out,List.take_of_length_le (by rw [b3.out];omega)]
    clear z A E;go_wp2_with fail;go_ret;exact ⟨la,ln,lc,rfl,by rw [HE.out];exact Y.out,Z.out⟩
 have b4:Hid ((if c.kind=2 then insW L c.name else L)=L):=by unfold Hid;rw [← cn.out,if_neg hcase]
 have hd:(k == 2)=false:=by simpa using hcase
 clear hcase;clear aH;obtain ⟨q0,q1,q2,q3⟩:=U.out.cells;go_enter Tryz.func44, Tryz.ntmps44;go_wp2_with fail;rw [← bq.out];have ax:Hid (RSS lo W1.heap.size W1 a n D L):=by unfold Hid;exact RSS.mono (bW.out.below a0.out N) (Nat.le_refl _) (Nat.le_trans N a0.out.size)
 have aC:Hid (GoodV L):=HG.out;have bu:Hid (L.length=n):=ck;have bU:n≤n+1:=by omega
 have ar:Hid (Below w.heap.size w W1):=a0.out;have ad:Hid (BoxC W1 w.heap.size (.int .i64 k) (.slice na nn nc) (.slice ra rn rc) (.slice ka kn kc)):=U.out;go_loopw [0,5] (fun l i wr=>∃ (j:Nat) (la:Option Addr) (ln lc:Nat),j≤kn∧i=.int .i64 j∧l=.slice la ln lc∧RSS lo wr.heap.size wr la ln lc (namesL (c.kids.take j) L)∧Below w.heap.size w wr∧BoxC wr w.heap.size (.int .i64 k) (.slice na nn nc) (.slice ra rn rc) (.slice ka kn kc)) (fun _ i _=>kn - (intOf i).toNat)
 case atStart=>exact ⟨0,_,_,_,Nat.zero_le _,rfl,rfl,by simp only [List.take_zero,namesL];exact ax.out,ar.out,ad.out⟩
 case round =>
  obtain ⟨j,la,ln,lc,hj,rfl,rfl,E,z,A⟩:=hrel;obtain ⟨p0,p1,p2,p3⟩:=A.cells;have Z:Hid (Below w.heap.size w wr):=z;have G:Hid (BoxC wr w.heap.size (.int .i64 k) (.slice na nn nc) (.slice ra rn rc) (.slice ka kn kc)):=A;have Y:Hid (RSS lo wr.heap.size wr la ln lc (namesL (c.kids.take j) L)):=E;by_cases hlt:j<kn
  · have a7:j<c.kids.length:=by rw [b3.out];exact hlt
    have hR:=HK.out.same (Same.of_below z N);rcases hR.cells with hz | ⟨b,off,e1,_,_,hc⟩
    · omega
    subst e1;obtain ⟨v0,v1,v2,v3,c0,c1,c2,c3,hr⟩:=hc j hlt;have ap:Hid (RdC lo wr.heap.size wr d (.agg #[v0,v1,v2,v3]) (c.kids.getD j CN.zero)):=hr.mono (Nat.le_refl _) (Nat.le_trans N z.size);have bo:(j:Int)<(kn:Int):=by omega
    have a9:=GoodV.nm aC.out (partsL_byt c4.out j);rw [← namesL_parts] at a9;have bx:Hid (GoodV (namesL (c.kids.take j) L)):=a9.1
    have bz:Hid (ln+(parts (c.kids.getD j CN.zero) (deep+1)).length≤1048576):=by
     have h1:=a9.2;rw [Y.out.len,bu.out] at h1;have h2:=partsL_take_le c.kids (deep+1) j a7;unfold Hid;omega
    have HS:Hid (namesL (c.kids.take (j+1)) L=namesC (c.kids.getD j CN.zero) (namesL (c.kids.take j) L)):=namesL_take _ _ _ a7;have a5:lo≤wr.heap.size:=Nat.le_trans av z.size;clear hR hc hr z A E a9;go_wp2_with fail;refine (H (deep+1) (.agg #[v0,v1,v2,v3]) (c.kids.getD j CN.zero) wr la ln lc _ lo wr.heap.size ap.out Y.out (Nat.le_refl _) a5 bx.out bz.out).mono ?_;rintro e w' ⟨a',n',c',rfl,aD,ak⟩;have aE:Hid (RSS lo w'.heap.size w' a' n' c' (namesL (c.kids.take (j+1)) L)):=by unfold Hid;rw [HS.out];exact aD
    have af:Hid (Below w.heap.size w w'):=Z.out.trans (ak.mono Z.out.size);have F:Hid (BoxC w' w.heap.size (.int .i64 k) (.slice na nn nc) (.slice ra rn rc) (.slice (some ⟨b,off,none⟩) kn kc)):=G.out.below ak G.out.lt;clear ak aD;go_wp2_with fail;go_roundw
    case rel=>exact ⟨j+1,a',n',c',by omega,by go_num,rfl,aE.out,af.out,F.out⟩
    case measure=>simp [intOf];omega
  have HE:Hid (namesC c L=namesL (c.kids.take j) L):=by unfold Hid;rw [HC.out,b4.out,List.take_of_length_le (by rw [b3.out];omega)]
  clear z A E;go_wp2_with fail;go_ret;exact ⟨la,ln,lc,rfl,by rw [HE.out];exact Y.out,Z.out⟩
theorem NmP_any:∀ d,NmP d
 | 0=>fun _ _ _ _ _ _ _ _ _ _ h=>h.elim
 | d+1=>NmP_of (NmP_any d)
def RlP (d:Nat):Prop:=∀ (deep:Nat) (v:Value) (c:CN) (w:World) (a:Option Addr) (n D:Nat) (L:List (List Int)) (lo hi:Nat),RdC lo hi w d v c→RSS lo hi w a n D L→hi≤w.heap.size→lo≤w.heap.size→GoodV L→n+(parts c deep).length≤1048576 →
 Calls Tryz.prog 45 #[.slice a n D,v] w fun e w'=>∃ a' n' c',e=.returned (.slice a' n' c')∧RSS lo w'.heap.size w' a' n' c' (rolesC c L)∧Below w.heap.size w w'
set_option maxRecDepth 100000 in
set_option maxHeartbeats 2000000 in
theorem RlP_of {d:Nat} (H:RlP d):RlP (d+1):=by
 intro deep v c w a n D L lo hi h hl N av ag bp;have bC:Hid (BytP (parts c deep)):=h.byts deep;obtain ⟨na,nn,nc,ra,rn,rc,ka,kn,kc,rfl,bK,bJ,hk⟩:=h;have b3:Hid (c.kids.length=kn):=hk.len;have cR:=hk.fits;have HC:Hid (rolesC c L=rolesL c.kids (addW L c.role)):=rolesC_eq c L;have HP:Hid (parts c deep=(deep,c) :: partsL c.kids (deep+1)):=parts_eq c deep;have ck:L.length=n:=hl.len;have cV:n+1+(partsL c.kids (deep+1)).length≤1048576:=by have:=HP.out;rw [this] at bp;simp at bp;omega
 have c4:Hid (BytP (partsL c.kids (deep+1))):=fun p hp=>bC.out p (by rw [HP.out];exact List.mem_cons_of_mem _ hp)
 have bh:Hid (Rd lo hi w ra rn rc c.role):=bJ;have aH:Byt c.role:=bJ.byte;have bW:Hid (RSS lo hi w a n D L):=hl;have HK:Hid (RdL (RdC lo hi w d) lo hi w ka kn kc c.kids):=hk;have HG:Hid (GoodV L):=ag;have cl:Hid (c.role.length=rn):=bJ.len;obtain ⟨k,bm⟩:∃ k,k=c.kind:=⟨_,rfl⟩;rw [← bm];obtain ⟨W1,aI⟩:∃ W1,W1=w.alloc (.cells #[.int .i64 k,.slice na nn nc,.slice ra rn rc,.slice ka kn kc] 37):=⟨_,rfl⟩;have ah:Below w.heap.size w W1:=by rw [aI];exact (Below.refl _ _).alloc (Nat.le_refl _) _
 have a0:Hid (Below w.heap.size w W1):=ah;have U:Hid (BoxC W1 w.heap.size (.int .i64 k) (.slice na nn nc) (.slice ra rn rc) (.slice ka kn kc)):=by unfold Hid;rw [aI];exact BoxC.new w _ _ _ _
 have bq:Hid (W1=w.alloc (.cells #[.int .i64 k,.slice na nn nc,.slice ra rn rc,.slice ka kn kc] 37)):=aI;have cn:Hid (k=c.kind):=bm;have cP:=ah.size;clear hk bm ah aI bK bJ hl ag bp;by_cases hcase:0<rn
 · have b4:Hid ((addW L c.role)=insW L c.role):=by unfold Hid;unfold addW;rw [if_neg (by rw [cl.out];omega)]
   have aC:Hid (GoodV (insW L c.role)):=HG.out.ins aH;have bU:(insW L c.role).length≤n+1:=by have:=(insW_len aH HG.out.srt HG.out.byt).2;omega
   have cQ:0<(rn:Int):=by omega
   clear aH;go_enter Tryz.func45, Tryz.ntmps45;go_wp2_with fail;rw [← bq.out];refine (l2insert_any a n D L ra rn rc c.role W1 (bW.out.below a0.out N) (bh.out.same (Same.of_below a0.out N)) (Nat.le_trans N a0.out.size) (by omega)).mono ?_;rintro e w1 ⟨v1,rfl,ae,I⟩;obtain ⟨a1,c1,rfl,T⟩:=ae.slice (Nat.le_trans av a0.out.size) (Nat.le_trans N (Nat.le_trans a0.out.size I.size));obtain ⟨n1,a8⟩:∃ n1,n1=(insW L c.role).length:=⟨_,rfl⟩;rw [← a8] at T bU ⊢;have ax:Hid (RSS lo w1.heap.size w1 a1 n1 c1 (insW L c.role)):=T;have ar:Hid (Below w.heap.size w w1):=a0.out.trans (I.mono a0.out.size);have ad:Hid (BoxC w1 w.heap.size (.int .i64 k) (.slice na nn nc) (.slice ra rn rc) (.slice ka kn kc)):=U.out.below I U.out.lt;obtain ⟨q0,q1,q2,q3⟩:=ad.out.cells;have bu:Hid ((insW L c.role).length=n1):=a8.symm;clear ae I T a8;go_wp2_with fail;go_loopw [0,5] (fun l i wr=>∃ (j:Nat) (la:Option Addr) (ln lc:Nat),j≤kn∧i=.int .i64 j∧l=.slice la ln lc∧RSS lo wr.heap.size wr la ln lc (rolesL (c.kids.take j) (insW L c.role))∧Below w.heap.size w wr∧BoxC wr w.heap.size (.int .i64 k) (.slice na nn nc) (.slice ra rn rc) (.slice ka kn kc)) (fun _ i _=>kn - (intOf i).toNat)
   case atStart=>exact ⟨0,_,_,_,Nat.zero_le _,rfl,rfl,by simp only [List.take_zero,rolesL];exact ax.out,ar.out,ad.out⟩
   case round =>
    obtain ⟨j,la,ln,lc,hj,rfl,rfl,E,z,A⟩:=hrel;obtain ⟨p0,p1,p2,p3⟩:=A.cells;have Z:Hid (Below w.heap.size w wr):=z;have G:Hid (BoxC wr w.heap.size (.int .i64 k) (.slice na nn nc) (.slice ra rn rc) (.slice ka kn kc)):=A;have Y:Hid (RSS lo wr.heap.size wr la ln lc (rolesL (c.kids.take j) (insW L c.role))):=E;by_cases hlt:j<kn
    · have a7:j<c.kids.length:=by rw [b3.out];exact hlt
      have hR:=HK.out.same (Same.of_below z N);rcases hR.cells with hz | ⟨b,off,e1,_,_,hc⟩
      · omega
      subst e1;obtain ⟨v0,v1,v2,v3,c0,c1,c2,c3,hr⟩:=hc j hlt;have ap:Hid (RdC lo wr.heap.size wr d (.agg #[v0,v1,v2,v3]) (c.kids.getD j CN.zero)):=hr.mono (Nat.le_refl _) (Nat.le_trans N z.size);have bo:(j:Int)<(kn:Int):=by omega
      have a9:=GoodV.rl aC.out (partsL_byt c4.out j);rw [← rolesL_parts] at a9;have bx:Hid (GoodV (rolesL (c.kids.take j) (insW L c.role))):=a9.1
      have bz:Hid (ln+(parts (c.kids.getD j CN.zero) (deep+1)).length≤1048576):=by
       have h1:=a9.2;rw [Y.out.len,bu.out] at h1;have h2:=partsL_take_le c.kids (deep+1) j a7;unfold Hid;omega
      have HS:Hid (rolesL (c.kids.take (j+1)) (insW L c.role)=rolesC (c.kids.getD j CN.zero) (rolesL (c.kids.take j) (insW L c.role))):=rolesL_take _ _ _ a7;have a5:lo≤wr.heap.size:=Nat.le_trans av z.size;clear hR hc hr z A E a9;go_wp2_with fail;refine (H (deep+1) (.agg #[v0,v1,v2,v3]) (c.kids.getD j CN.zero) wr la ln lc _ lo wr.heap.size ap.out Y.out (Nat.le_refl _) a5 bx.out bz.out).mono ?_;rintro e w' ⟨a',n',c',rfl,aD,ak⟩;have aE:Hid (RSS lo w'.heap.size w' a' n' c' (rolesL (c.kids.take (j+1)) (insW L c.role))):=by unfold Hid;rw [HS.out];exact aD
      have af:Hid (Below w.heap.size w w'):=Z.out.trans (ak.mono Z.out.size);have F:Hid (BoxC w' w.heap.size (.int .i64 k) (.slice na nn nc) (.slice ra rn rc) (.slice (some ⟨b,off,none⟩) kn kc)):=G.out.below ak G.out.lt;clear ak aD;go_wp2_with fail;go_roundw
      case rel=>exact ⟨j+1,a',n',c',by omega,by go_num,rfl,aE.out,af.out,F.out⟩
      case measure=>simp [intOf];omega
    have HE:Hid (rolesC c L=rolesL (c.kids.take j) (insW L c.role)):=by unfold Hid;rw [HC.out,b4.out,List.take_of_length_le (by rw [b3.out];omega)]
    clear z A E;go_wp2_with fail;go_ret;exact ⟨la,ln,lc,rfl,by rw [HE.out];exact Y.out,Z.out⟩
 have b4:Hid ((addW L c.role)=L):=by unfold Hid;unfold addW;rw [if_pos (by rw [cl.out];omega)]
 have cQ:¬ (0<(rn:Int)):=by omega
 clear aH;obtain ⟨q0,q1,q2,q3⟩:=U.out.cells;go_enter Tryz.func45, Tryz.ntmps45;go_wp2_with fail;rw [← bq.out];have ax:Hid (RSS lo W1.heap.size W1 a n D L):=by unfold Hid;exact RSS.mono (bW.out.below a0.out N) (Nat.le_refl _) (Nat.le_trans N a0.out.size)
 have aC:Hid (GoodV L):=HG.out;have bu:Hid (L.length=n):=ck;have bU:n≤n+1:=by omega
 have ar:Hid (Below w.heap.size w W1):=a0.out;have ad:Hid (BoxC W1 w.heap.size (.int .i64 k) (.slice na nn nc) (.slice ra rn rc) (.slice ka kn kc)):=U.out;go_loopw [0,5] (fun l i wr=>∃ (j:Nat) (la:Option Addr) (ln lc:Nat),j≤kn∧i=.int .i64 j∧l=.slice la ln lc∧RSS lo wr.heap.size wr la ln lc (rolesL (c.kids.take j) L)∧Below w.heap.size w wr∧BoxC wr w.heap.size (.int .i64 k) (.slice na nn nc) (.slice ra rn rc) (.slice ka kn kc)) (fun _ i _=>kn - (intOf i).toNat)
 case atStart=>exact ⟨0,_,_,_,Nat.zero_le _,rfl,rfl,by simp only [List.take_zero,rolesL];exact ax.out,ar.out,ad.out⟩
 case round =>
  obtain ⟨j,la,ln,lc,hj,rfl,rfl,E,z,A⟩:=hrel;obtain ⟨p0,p1,p2,p3⟩:=A.cells;have Z:Hid (Below w.heap.size w wr):=z;have G:Hid (BoxC wr w.heap.size (.int .i64 k) (.slice na nn nc) (.slice ra rn rc) (.slice ka kn kc)):=A;have Y:Hid (RSS lo wr.heap.size wr la ln lc (rolesL (c.kids.take j) L)):=E;by_cases hlt:j<kn
  · have a7:j<c.kids.length:=by rw [b3.out];exact hlt
    have hR:=HK.out.same (Same.of_below z N);rcases hR.cells with hz | ⟨b,off,e1,_,_,hc⟩
    · omega
    subst e1;obtain ⟨v0,v1,v2,v3,c0,c1,c2,c3,hr⟩:=hc j hlt;have ap:Hid (RdC lo wr.heap.size wr d (.agg #[v0,v1,v2,v3]) (c.kids.getD j CN.zero)):=hr.mono (Nat.le_refl _) (Nat.le_trans N z.size);have bo:(j:Int)<(kn:Int):=by omega
    have a9:=GoodV.rl aC.out (partsL_byt c4.out j);rw [← rolesL_parts] at a9;have bx:Hid (GoodV (rolesL (c.kids.take j) L)):=a9.1
    have bz:Hid (ln+(parts (c.kids.getD j CN.zero) (deep+1)).length≤1048576):=by
     have h1:=a9.2;rw [Y.out.len,bu.out] at h1;have h2:=partsL_take_le c.kids (deep+1) j a7;unfold Hid;omega
    have HS:Hid (rolesL (c.kids.take (j+1)) L=rolesC (c.kids.getD j CN.zero) (rolesL (c.kids.take j) L)):=rolesL_take _ _ _ a7;have a5:lo≤wr.heap.size:=Nat.le_trans av z.size;clear hR hc hr z A E a9;go_wp2_with fail;refine (H (deep+1) (.agg #[v0,v1,v2,v3]) (c.kids.getD j CN.zero) wr la ln lc _ lo wr.heap.size ap.out Y.out (Nat.le_refl _) a5 bx.out bz.out).mono ?_;rintro e w' ⟨a',n',c',rfl,aD,ak⟩;have aE:Hid (RSS lo w'.heap.size w' a' n' c' (rolesL (c.kids.take (j+1)) L)):=by unfold Hid;rw [HS.out];exact aD
    have af:Hid (Below w.heap.size w w'):=Z.out.trans (ak.mono Z.out.size);have F:Hid (BoxC w' w.heap.size (.int .i64 k) (.slice na nn nc) (.slice ra rn rc) (.slice (some ⟨b,off,none⟩) kn kc)):=G.out.below ak G.out.lt;clear ak aD;go_wp2_with fail;go_roundw
    case rel=>exact ⟨j+1,a',n',c',by omega,by go_num,rfl,aE.out,af.out,F.out⟩
    case measure=>simp [intOf];omega
  have HE:Hid (rolesC c L=rolesL (c.kids.take j) L):=by unfold Hid;rw [HC.out,b4.out,List.take_of_length_le (by rw [b3.out];omega)]
  clear z A E;go_wp2_with fail;go_ret;exact ⟨la,ln,lc,rfl,by rw [HE.out];exact Y.out,Z.out⟩
theorem RlP_any:∀ d,RlP d
 | 0=>fun _ _ _ _ _ _ _ _ _ _ h=>h.elim
 | d+1=>RlP_of (RlP_any d)
end
section
open Go.RowKit
structure AxB (x:AX):Prop where
 c:BytP (parts x.c 1)
 d:BytP (parts x.d 1)
 r:Byt x.r
 s:Byt x.s
 a:Byt x.a
 b:Byt x.b
 nc:(parts x.c 1).length≤16
 nd:(parts x.d 1).length≤16
theorem stN_good {l:List (List Int)} {x:AX} (h:GoodV l) (hx:AxB x):GoodV (stN l x)∧(stN l x).length≤l.length+32:=by
 unfold stN;rw [namesC_parts x.c 1,namesC_parts x.d 1];obtain ⟨h1,h2⟩:=h.nm hx.c;obtain ⟨h3,h4⟩:=h1.nm hx.d;have:=hx.nc;have:=hx.nd;exact ⟨h3,by omega⟩
theorem rolesC_good {l:List (List Int)} {x:AX} (h:GoodV l) (hx:AxB x):GoodV (rolesC x.c l)∧(rolesC x.c l).length≤l.length+16∧GoodV (rolesC x.d (rolesC x.c l))∧(rolesC x.d (rolesC x.c l)).length≤l.length+32:=by
 rw [rolesC_parts x.c 1,rolesC_parts x.d 1];obtain ⟨h1,h2⟩:=h.rl hx.c;obtain ⟨h3,h4⟩:=h1.rl hx.d;have:=hx.nc;have:=hx.nd;exact ⟨h1,by omega,h3,by omega⟩
theorem stR_good {l:List (List Int)} {x:AX} (h:GoodV l) (hx:AxB x):GoodV (stR l x)∧(stR l x).length≤l.length+34:=by
 unfold stR;obtain ⟨_,_,h3,h4⟩:=rolesC_good h hx;have h5:=h3.add hx.r;have h6:=addW_len hx.r h3.srt h3.byt;have h7:=addW_len hx.s h5.srt h5.byt;exact ⟨h5.add hx.s,by omega⟩
theorem stI_good {l:List (List Int)} {x:AX} (h:GoodV l) (hx:AxB x):GoodV (stI l x)∧(stI l x).length≤l.length+2:=by
 unfold stI;have h5:=h.add hx.a;have h6:=addW_len hx.a h.srt h.byt;have h7:=addW_len hx.b h5.srt h5.byt;exact ⟨h5.add hx.b,by omega⟩
theorem kb_good {f:List (List Int)→AX→List (List Int)} {m:Nat} (hf:∀ l x,GoodV l→AxB x→GoodV (f l x)∧(f l x).length≤l.length+m):∀ (xs:List AX) (l:List (List Int)),GoodV l→(∀ x∈xs,AxB x)→GoodV (xs.foldl f l)∧(xs.foldl f l).length≤l.length+m*xs.length
 | [],l,h,_=>⟨h,by simp⟩
 | x :: xs,l,h,hx=>by
  obtain ⟨h1,h2⟩:=hf l x h (hx x (by simp));obtain ⟨h3,h4⟩:=kb_good hf xs (f l x) h1 (fun y hy=>hx y (by simp [hy]));refine ⟨h3,?_⟩;rw [List.foldl_cons,List.length_cons,Nat.mul_add];omega
theorem kbN_good {xs:List AX} (h:∀ x∈xs,AxB x):GoodV (kbN xs)∧(kbN xs).length≤32*xs.length:=by have:=kb_good (fun l x=>stN_good) xs [] GoodV.nil h;simpa [kbN] using this
theorem kbR_good {xs:List AX} (h:∀ x∈xs,AxB x):GoodV (kbR xs)∧(kbR xs).length≤34*xs.length:=by have:=kb_good (fun l x=>stR_good) xs [] GoodV.nil h;simpa [kbR] using this
theorem kbI_good {xs:List AX} (h:∀ x∈xs,AxB x):GoodV (kbI xs)∧(kbI xs).length≤2*xs.length:=by have:=kb_good (fun l x=>stI_good) xs [] GoodV.nil h;simpa [kbI] using this
theorem axb_take {xs:List AX} (h:∀ x∈xs,AxB x) (j:Nat):∀ x∈xs.take j,AxB x:=fun x hx=>h x (List.mem_of_mem_take hx)
theorem axb_getD {xs:List AX} (h:∀ x∈xs,AxB x) {j:Nat} (hj:j<xs.length):AxB (xs.getD j AX.zero):=by
 rw [List.getD_eq_getElem?_getD,List.getElem?_eq_getElem hj];exact h _ (List.getElem_mem hj)
theorem below_drew (w:World):Below w.heap.size w w.drew:=(Below.refl _ _).drew
theorem RSS.nil (lo hi:Nat) (w:World):RSS lo hi w none 0 0 []:=⟨rfl,⟨Nat.le_refl _,by omega⟩,.inl rfl⟩
set_option maxRecDepth 100000 in
set_option maxHeartbeats 4000000 in
theorem l3names_any {a:Option Addr} {n D:Nat} {xs:List AX} {dp:Nat} {w:World} {lo hi:Nat} (h:RdK lo hi w dp a n D xs) (N:hi≤w.heap.size) (av:lo≤w.heap.size) (bg:∀ x∈xs,AxB x) (cH:n≤8) :
    Calls Tryz.prog 18 #[.agg #[.slice a n D]] w fun e w'=>∃ a' n' c',e=.returned (.slice a' n' c')∧RSS lo w'.heap.size w' a' n' c' (kbN xs)∧Below w.heap.size w w':=by
 have HK:Hid (RdK lo hi w dp a n D xs):=h;have HL:Hid (xs.length=n):=h.len;have bj:Hid (∀ x∈xs,AxB x):=bg;have hf:=h.fits;have ah:Below w.heap.size w (w.alloc (.cells #[.slice a n D] 25)):=(Below.refl _ _).alloc (Nat.le_refl _) _;have a0:Hid (Below w.heap.size w (w.alloc (.cells #[.slice a n D] 25))):=ah;have U:Hid (Boxed (w.alloc (.cells #[.slice a n D] 25)) w.heap.size 25 (.slice a n D)):=Boxed.new w _ _;clear h ah bg;go_enter Tryz.func18, Tryz.ntmps18;go_wp2_with fail;go_loopw [3,4] (fun l i wr=>∃ (j:Nat) (la:Option Addr) (ln lc:Nat),j≤n∧i=.int .i64 j∧l=.slice la ln lc∧RSS lo wr.heap.size wr la ln lc (kbN (xs.take j))∧Below w.heap.size w wr∧Boxed wr w.heap.size 25 (.slice a n D)) (fun _ i _=>n - (intOf i).toNat)
 case atStart=>exact ⟨0,_,_,_,Nat.zero_le _,rfl,rfl,RSS.nil _ _ _,a0.out,U.out⟩
 case round =>
  obtain ⟨j,la,ln,lc,hj,rfl,rfl,E,z,A⟩:=hrel;have cB:=A.cell;have al:=A.lt;have Z:Hid (Below w.heap.size w wr):=z;have G:Hid (Boxed wr w.heap.size 25 (.slice a n D)):=A;have Y:Hid (RSS lo wr.heap.size wr la ln lc (kbN (xs.take j))):=E;obtain ⟨bf,be⟩:=kbN_good (axb_take bj.out j);have bi:Hid (GoodV (kbN (xs.take j))):=bf;have cI:ln≤300:=by rw [E.len,List.length_take] at be;omega
  clear bf be;by_cases hlt:j<n
  · have a7:j<xs.length:=by rw [HL.out];exact hlt
    have hK:=HK.out.below z N;rcases hK.cells with hz | ⟨b,off,e1,c6,bA,hc⟩
    · omega
    subst e1;obtain ⟨c0,c1,c2,c3,d0,d1,d2,d3,ra,rn,rc,sa,sn,sc,aa,an,ac,ba,bn,bc,q0,q1,q2,q3,q4,q5,q6,q7,q8,q9,cE,bP,bO,bb⟩:=hc j hlt;have aj:Hid (RdA lo hi wr dp c0 c1 c2 c3 d0 d1 d2 d3 ra rn rc sa sn sc aa an ac ba bn bc (xs.getD j AX.zero)):=bb;have X:Hid (AxB (xs.getD j AX.zero)):=axb_getD bj.out a7;have ai:Hid (kbN (xs.take (j+1))=stN (kbN (xs.take j)) (xs.getD j AX.zero)):=kbN_take xs j a7;have bo:(j:Int)<(n:Int):=by omega
    have aA:b<wr.heap.size:=by have:=z.size;omega
    have a5:lo≤wr.heap.size:=Nat.le_trans av z.size;have ab:hi≤wr.heap.size:=Nat.le_trans N z.size;obtain ⟨x,hx⟩:∃ x,x=xs.getD j AX.zero:=⟨_,rfl⟩;rw [← hx] at aj X ai q0;obtain ⟨kk,bd⟩:∃ kk,kk=x.kind:=⟨_,rfl⟩;rw [← bd] at q0;clear hK hc bb z A E hx bd
    have am:Hid (∀ V,Below wr.heap.size wr V→V.cell? ⟨w.heap.size,0,none⟩=some (.slice (some ⟨b,off,none⟩) n D)∧V.cell? ⟨b,off+j*13+1,none⟩=some c0∧V.cell? ⟨b,off+j*13+2,none⟩=some c1∧V.cell? ⟨b,off+j*13+3,none⟩=some c2∧V.cell? ⟨b,off+j*13+4,none⟩=some c3∧V.cell? ⟨b,off+j*13+5,none⟩=some d0∧V.cell? ⟨b,off+j*13+6,none⟩=some d1∧V.cell? ⟨b,off+j*13+7,none⟩=some d2∧V.cell? ⟨b,off+j*13+8,none⟩=some d3):=by
     intro V hV;have t:∀ (p k:Nat) (v:Value),p<wr.heap.size→wr.cell? ⟨p,k,none⟩=some v→V.cell? ⟨p,k,none⟩=some v:=fun p k v h1 h2=>(hV.cell (p:=⟨p,k,none⟩) h1).trans h2
     exact ⟨t _ _ _ al cB,t _ _ _ aA q1,t _ _ _ aA q2,t _ _ _ aA q3,t _ _ _ aA q4,t _ _ _ aA q5,t _ _ _ aA q6,t _ _ _ aA q7,t _ _ _ aA q8⟩
    have Hd:Hid (Below wr.heap.size wr wr.drew):=below_drew wr;have d4:Hid (RdC lo wr.heap.size wr.drew dp (.agg #[c0,c1,c2,c3]) x.c):=(aj.out.c.below Hd.out ab).mono (Nat.le_refl _) ab;have cZ:Hid (∀ V,Below wr.heap.size wr V→RdC lo V.heap.size V dp (.agg #[d0,d1,d2,d3]) x.d):=fun V hV=>(aj.out.d.below hV ab).mono (Nat.le_refl _) (Nat.le_trans ab hV.size)
    have cm:Hid (RSS lo wr.heap.size wr.drew la ln lc (kbN (xs.take j))):=Y.out.below Hd.out (Nat.le_refl _);have aC:=bi.out.nm X.out.c;rw [← namesC_parts] at aC;have co:Hid (GoodV (namesC x.c (kbN (xs.take j)))):=aC.1;have cY:Hid ((namesC x.c (kbN (xs.take j))).length≤400):=by have:=aC.2;have:=X.out.nc;rw [Y.out.len] at *;unfold Hid;omega
    clear aC;go_upto_region 5 with fail
    first | go_region_held3 (fun V=>V.cell? ⟨w.heap.size,0,none⟩=some (.slice (some ⟨b,off,none⟩) n D)∧V.cell? ⟨b,off+j*13+1,none⟩=some c0∧V.cell? ⟨b,off+j*13+2,none⟩=some c1∧V.cell? ⟨b,off+j*13+3,none⟩=some c2∧V.cell? ⟨b,off+j*13+4,none⟩=some c3∧V.cell? ⟨b,off+j*13+5,none⟩=some d0∧V.cell? ⟨b,off+j*13+6,none⟩=some d1∧V.cell? ⟨b,off+j*13+7,none⟩=some d2∧V.cell? ⟨b,off+j*13+8,none⟩=some d3) (first | with_reducible exact am.out _ bM.out | with_reducible exact am.out _ aB.out | with_reducible exact am.out _ Hd.out) (first
        | (go_at_call_of 44 c0;refine (NmP_any dp 1 (.agg #[c0,c1,c2,c3]) x.c wr.drew la ln lc _ lo wr.heap.size d4.out cm.out (Nat.le_refl _) a5 bi.out (by have:=X.out.nc;omega)).mono ?_;rintro e p1 ⟨a1,n1,l1,rfl,T,I⟩;have aB:Hid (Below wr.heap.size wr p1):=Hd.out.trans I;have ax:Hid (RSS lo p1.heap.size p1 a1 n1 l1 (namesC x.c (kbN (xs.take j)))):=T;clear T I)
        | (go_at_call_of 44 d0;refine (NmP_any dp 1 (.agg #[d0,d1,d2,d3]) x.d p1 a1 n1 l1 _ lo p1.heap.size (cZ.out _ aB.out) ax.out (Nat.le_refl _) (Nat.le_trans a5 aB.out.size) co.out (by have:=X.out.nd;have:=cY.out;have:=ax.out.len;omega)).mono ?_;rintro e p2 ⟨a2,n2,l2,rfl,bR,bT⟩;have bM:Hid (Below wr.heap.size wr p2):=aB.out.trans (bT.mono aB.out.size);have aE:Hid (RSS lo p2.heap.size p2 a2 n2 l2 (kbN (xs.take (j+1)))):=(by unfold Hid;rw [ai.out];exact bR);clear bR bT))
    all_goals
     have af:Hid (Below w.heap.size w p2):=Z.out.trans (bM.out.mono Z.out.size);have F:Hid (Boxed p2 w.heap.size 25 (.slice (some ⟨b,off,none⟩) n D)):=(bM.out.block _ al).trans G.out;go_wp2_with fail;go_roundw
     case rel=>exact ⟨j+1,a2,n2,l2,by omega,by go_num,rfl,aE.out,af.out,F.out⟩
     case measure=>simp [intOf];omega
  have HE:Hid (kbN xs=kbN (xs.take j)):=by unfold Hid;rw [List.take_of_length_le (by rw [HL.out];omega)]
  clear z A E;go_wp2_with fail;go_ret;exact ⟨la,ln,lc,rfl,by rw [HE.out];exact Y.out,Z.out⟩
end
section
open Go.RowKit
set_option maxRecDepth 100000 in
set_option maxHeartbeats 4000000 in
theorem l3roles_any {a:Option Addr} {n D:Nat} {xs:List AX} {dp:Nat} {w:World} {lo hi:Nat} (h:RdK lo hi w dp a n D xs) (N:hi≤w.heap.size) (av:lo≤w.heap.size) (bg:∀ x∈xs,AxB x) (cH:n≤8) :
    Calls Tryz.prog 19 #[.agg #[.slice a n D]] w fun e w'=>∃ a' n' c',e=.returned (.slice a' n' c')∧RSS lo w'.heap.size w' a' n' c' (kbR xs)∧Below w.heap.size w w':=by
 have HK:Hid (RdK lo hi w dp a n D xs):=h;have HL:Hid (xs.length=n):=h.len;have bj:Hid (∀ x∈xs,AxB x):=bg;have hf:=h.fits;have ah:Below w.heap.size w (w.alloc (.cells #[.slice a n D] 25)):=(Below.refl _ _).alloc (Nat.le_refl _) _;have a0:Hid (Below w.heap.size w (w.alloc (.cells #[.slice a n D] 25))):=ah;have U:Hid (Boxed (w.alloc (.cells #[.slice a n D] 25)) w.heap.size 25 (.slice a n D)):=Boxed.new w _ _;clear h ah bg;go_enter Tryz.func19, Tryz.ntmps19;go_wp2_with fail;go_loopw [3,4] (fun l i wr=>∃ (j:Nat) (la:Option Addr) (ln lc:Nat),j≤n∧i=.int .i64 j∧l=.slice la ln lc∧RSS lo wr.heap.size wr la ln lc (kbR (xs.take j))∧Below w.heap.size w wr∧Boxed wr w.heap.size 25 (.slice a n D)) (fun _ i _=>n - (intOf i).toNat)
 case atStart=>exact ⟨0,_,_,_,Nat.zero_le _,rfl,rfl,RSS.nil _ _ _,a0.out,U.out⟩
 case round =>
  obtain ⟨j,la,ln,lc,hj,rfl,rfl,E,z,A⟩:=hrel;have cB:=A.cell;have al:=A.lt;have Z:Hid (Below w.heap.size w wr):=z;have G:Hid (Boxed wr w.heap.size 25 (.slice a n D)):=A;have Y:Hid (RSS lo wr.heap.size wr la ln lc (kbR (xs.take j))):=E;obtain ⟨bf,be⟩:=kbR_good (axb_take bj.out j);have bi:Hid (GoodV (kbR (xs.take j))):=bf;have cI:ln≤300:=by rw [E.len,List.length_take] at be;omega
  clear bf be;by_cases hlt:j<n
  · have a7:j<xs.length:=by rw [HL.out];exact hlt
    have hK:=HK.out.below z N;rcases hK.cells with hz | ⟨b,off,e1,c6,bA,hc⟩
    · omega
    subst e1;obtain ⟨c0,c1,c2,c3,d0,d1,d2,d3,ra,rn,rc,sa,sn,sc,aa,an,ac,ba,bn,bc,q0,q1,q2,q3,q4,q5,q6,q7,q8,q9,cE,bP,bO,bb⟩:=hc j hlt;have aj:Hid (RdA lo hi wr dp c0 c1 c2 c3 d0 d1 d2 d3 ra rn rc sa sn sc aa an ac ba bn bc (xs.getD j AX.zero)):=bb;have X:Hid (AxB (xs.getD j AX.zero)):=axb_getD bj.out a7;have ai:Hid (kbR (xs.take (j+1))=stR (kbR (xs.take j)) (xs.getD j AX.zero)):=kbR_take xs j a7;have bo:(j:Int)<(n:Int):=by omega
    have aA:b<wr.heap.size:=by have:=z.size;omega
    have a5:lo≤wr.heap.size:=Nat.le_trans av z.size;have ab:hi≤wr.heap.size:=Nat.le_trans N z.size;obtain ⟨x,hx⟩:∃ x,x=xs.getD j AX.zero:=⟨_,rfl⟩;rw [← hx] at aj X ai q0;obtain ⟨kk,bd⟩:∃ kk,kk=x.kind:=⟨_,rfl⟩;rw [← bd] at q0;clear hK hc bb z A E hx bd;obtain ⟨ek,b2,aY,aZ,aX,aV,aW,aU,aS,aT,rfl,rfl,rfl,rfl⟩:=aj.out.c.sh.form;obtain ⟨fk,aR,aP,aQ,aO,aM,aN,aL,aJ,aK,rfl,rfl,rfl,rfl⟩:=aj.out.d.sh.form;obtain ⟨w1,b9⟩:∃ w1,w1=wr.alloc (.cells #[.int .i64 kk,.int .i64 ek,.slice b2 aY aZ,.slice aX aV aW,.slice aU aS aT,.int .i64 fk,.slice aR aP aQ,.slice aO aM aN,.slice aL aJ aK,.slice ra rn rc,.slice sa sn sc,.slice aa an ac,.slice ba bn bc] 39):=⟨_,rfl⟩;have bq:Hid (w1=wr.alloc (.cells #[.int .i64 kk,.int .i64 ek,.slice b2 aY aZ,.slice aX aV aW,.slice aU aS aT,.int .i64 fk,.slice aR aP aQ,.slice aO aM aN,.slice aL aJ aK,.slice ra rn rc,.slice sa sn sc,.slice aa an ac,.slice ba bn bc] 39)):=b9;have I:Below wr.heap.size wr w1:=by rw [b9];exact (Below.refl _ _).alloc (Nat.le_refl _) _
    have s1:w1.heap.size=wr.heap.size+1:=by rw [b9];simp
    have b8:Hid (BoxA 39 w1 wr.heap.size kk (.int .i64 ek) (.slice b2 aY aZ) (.slice aX aV aW) (.slice aU aS aT) (.int .i64 fk) (.slice aR aP aQ) (.slice aO aM aN) (.slice aL aJ aK) (.slice ra rn rc) (.slice sa sn sc) (.slice aa an ac) (.slice ba bn bc)):=by unfold Hid;rw [b9];exact BoxA.new _ wr _ _ _ _ _ _ _ _ _ _ _ _ _
    have ar:Hid (Below wr.heap.size wr w1):=I;have b7:Hid (∀ V,Below w1.heap.size w1 V→RdA lo hi V dp (.int .i64 ek) (.slice b2 aY aZ) (.slice aX aV aW) (.slice aU aS aT) (.int .i64 fk) (.slice aR aP aQ) (.slice aO aM aN) (.slice aL aJ aK) ra rn rc sa sn sc aa an ac ba bn bc x):=fun V hV=>(aj.out.below I ab).below hV (by omega)
    have am:Hid (∀ V,Below w1.heap.size w1 V→V.cell? ⟨wr.heap.size,1,none⟩=some (.int .i64 ek)∧V.cell? ⟨wr.heap.size,2,none⟩=some (.slice b2 aY aZ)∧V.cell? ⟨wr.heap.size,3,none⟩=some (.slice aX aV aW)∧V.cell? ⟨wr.heap.size,4,none⟩=some (.slice aU aS aT)∧V.cell? ⟨wr.heap.size,5,none⟩=some (.int .i64 fk)∧V.cell? ⟨wr.heap.size,6,none⟩=some (.slice aR aP aQ)∧V.cell? ⟨wr.heap.size,7,none⟩=some (.slice aO aM aN)∧V.cell? ⟨wr.heap.size,8,none⟩=some (.slice aL aJ aK)):=by
     intro V hV;obtain ⟨m0,m1,m2,m3,m4,m5,m6,m7,m8,_⟩:=(b8.out.below hV (by omega)).cells;exact ⟨m1,m2,m3,m4,m5,m6,m7,m8⟩
    have Hd:Hid (Below w1.heap.size w1 w1.drew):=below_drew w1;have cm:Hid (RSS lo w1.heap.size w1.drew la ln lc (kbR (xs.take j))):=by unfold Hid;exact (RSS.mono (Y.out.below I (Nat.le_refl _)) (Nat.le_refl _) I.size).below Hd.out (Nat.le_refl _)
    obtain ⟨cK,cU,ch,cT⟩:=rolesC_good bi.out X.out;have ct:(kbR (xs.take j)).length=ln:=Y.out.len;have cr:lo≤w1.heap.size:=by omega
    have co:Hid (GoodV (rolesC x.c (kbR (xs.take j)))):=cK;have db:Hid (GoodV (rolesC x.d (rolesC x.c (kbR (xs.take j))))):=ch;have cu:(rolesC x.c (kbR (xs.take j))).length≤400:=by omega
    have d9:(rolesC x.d (rolesC x.c (kbR (xs.take j)))).length≤400:=by omega
    have d8:(addW (rolesC x.d (rolesC x.c (kbR (xs.take j)))) x.r).length≤401:=by have:=addW_len X.out.r ch.srt ch.byt;omega
    have c8:Hid (x.r.length=rn):=aj.out.r.len;have c7:Hid (x.s.length=sn):=aj.out.s.len;have cx:Hid (∀ V,Below w1.heap.size w1 V→Rd lo hi V ra rn rc x.r):=fun V hV=>(b7.out V hV).r
    have cv:Hid (∀ V,Below w1.heap.size w1 V→Rd lo hi V sa sn sc x.s):=fun V hV=>(b7.out V hV).s
    obtain ⟨m0,m1,m2,m3,m4,m5,m6,m7,m8,m9,cf,ce,cd⟩:=b8.out.cells;clear b9 I cK cU ch cT;go_upto_region 6 with fail;rw [← bq.out];go_cut [3] (fun v V=>∃ a' n' c',v=.slice a' n' c'∧RSS lo V.heap.size V a' n' c' (rolesC x.d (rolesC x.c (kbR (xs.take j))))∧Below w1.heap.size w1 V)
    case first =>
     first | go_region_held3 (fun V=>V.cell? ⟨wr.heap.size,1,none⟩=some (.int .i64 ek)∧V.cell? ⟨wr.heap.size,2,none⟩=some (.slice b2 aY aZ)∧V.cell? ⟨wr.heap.size,3,none⟩=some (.slice aX aV aW)∧V.cell? ⟨wr.heap.size,4,none⟩=some (.slice aU aS aT)∧V.cell? ⟨wr.heap.size,5,none⟩=some (.int .i64 fk)∧V.cell? ⟨wr.heap.size,6,none⟩=some (.slice aR aP aQ)∧V.cell? ⟨wr.heap.size,7,none⟩=some (.slice aO aM aN)∧V.cell? ⟨wr.heap.size,8,none⟩=some (.slice aL aJ aK)) (first | with_reducible exact am.out _ bM.out | with_reducible exact am.out _ aB.out | with_reducible exact am.out _ Hd.out) (first
      | (go_at_call_of 45 ek;refine (RlP_any dp 1 (.agg #[.int .i64 ek,.slice b2 aY aZ,.slice aX aV aW,.slice aU aS aT]) x.c w1.drew la ln lc _ lo w1.heap.size ((b7.out _ Hd.out).c.mono (Nat.le_refl _) (by omega)) cm.out (Nat.le_refl _) cr bi.out (by have:=X.out.nc;omega)).mono ?_;rintro e p1 ⟨a1,n1,l1,rfl,T,I⟩;have aB:Hid (Below w1.heap.size w1 p1):=Hd.out.trans I;have ax:Hid (RSS lo p1.heap.size p1 a1 n1 l1 (rolesC x.c (kbR (xs.take j)))):=T;clear T I)
      | (go_at_call_of 45 fk;refine (RlP_any dp 1 (.agg #[.int .i64 fk,.slice aR aP aQ,.slice aO aM aN,.slice aL aJ aK]) x.d p1 a1 n1 l1 _ lo p1.heap.size ((b7.out _ aB.out).d.mono (Nat.le_refl _) (by have:=aB.out.size;omega)) ax.out (Nat.le_refl _) (by have:=aB.out.size;omega) co.out (by have:=X.out.nd;have:=ax.out.len;omega)).mono ?_;rintro e p2 ⟨a2,n2,l2,rfl,bR,bT⟩;have bM:Hid (Below w1.heap.size w1 p2):=aB.out.trans (bT.mono aB.out.size);have aE:Hid (RSS lo p2.heap.size p2 a2 n2 l2 (rolesC x.d (rolesC x.c (kbR (xs.take j))))):=bR;clear bR bT))
     all_goals
      go_wp2_with fail;go_meet
      case rel=>exact ⟨a2,n2,l2,rfl,aE.out,bM.out⟩
    case rest =>
     obtain ⟨a2,n2,l2,hv,hr,hb⟩:=hcut;subst hv;obtain ⟨w2,cO⟩:∃ V,V=wc:=⟨_,rfl⟩;subst cO;have ay:Hid (Below w1.heap.size w1 w2):=hb;have bB:Hid (RSS lo w2.heap.size w2 a2 n2 l2 (rolesC x.d (rolesC x.c (kbR (xs.take j))))):=hr;have d6:=hb.size;have cD:Hid (BoxA 39 w2 wr.heap.size kk (.int .i64 ek) (.slice b2 aY aZ) (.slice aX aV aW) (.slice aU aS aT) (.int .i64 fk) (.slice aR aP aQ) (.slice aO aM aN) (.slice aL aJ aK) (.slice ra rn rc) (.slice sa sn sc) (.slice aa an ac) (.slice ba bn bc)):=b8.out.below hb (by omega);clear m0 m1 m2 m3 m4 m5 m6 m7 m8 m9 cf ce cd hr hb;obtain ⟨m0,m1,m2,m3,m4,m5,m6,m7,m8,m9,cf,ce,cd⟩:=cD.out.cells;go_upto_if 28 with fail
     go_cut [3] (fun v V=>∃ a' n' c',v=.slice a' n' c'∧RSS lo V.heap.size V a' n' c' (addW (rolesC x.d (rolesC x.c (kbR (xs.take j)))) x.r)∧Below w1.heap.size w1 V)
     case first =>
      by_cases hw0:rn=0
      · have HA:Hid ((addW (rolesC x.d (rolesC x.c (kbR (xs.take j)))) x.r)=(rolesC x.d (rolesC x.c (kbR (xs.take j))))):=by unfold Hid addW;rw [if_pos (by rw [c8.out];exact hw0)]
        have bk:¬ (0<(rn:Int)):=by omega
        go_wp2_with fail;go_meet
        case rel=>exact ⟨_,_,_,rfl,by rw [HA.out];exact bB.out,ay.out⟩
      have HA:Hid ((addW (rolesC x.d (rolesC x.c (kbR (xs.take j)))) x.r)=insW (rolesC x.d (rolesC x.c (kbR (xs.take j)))) x.r):=by unfold Hid addW;rw [if_neg (by rw [c8.out];exact hw0)]
      have bk:0<(rn:Int):=by omega
      go_wp2_with fail;refine (l2insert_any a2 n2 l2 _ ra rn rc x.r w2 bB.out ((cx.out _ ay.out).mono (Nat.le_refl _) (by have:=ay.out.size;omega)) (Nat.le_refl _) (by have:=bB.out.len;omega)).mono ?_;rintro e p1 ⟨v1,rfl,ae,I⟩;obtain ⟨a1,l1,rfl,T⟩:=ae.slice (by have:=ay.out.size;omega) I.size;have bV:Hid (RSS lo p1.heap.size p1 a1 _ l1 (insW (rolesC x.d (rolesC x.c (kbR (xs.take j)))) x.r)):=T;have b5:Hid (Below w1.heap.size w1 p1):=ay.out.trans (I.mono ay.out.size);obtain ⟨n1,a8⟩:∃ n1,n1=(insW (rolesC x.d (rolesC x.c (kbR (xs.take j)))) x.r).length:=⟨_,rfl⟩;rw [← a8] at bV ⊢;clear ae I T a8;go_wp2_with fail;go_meet
      case rel=>exact ⟨_,_,_,rfl,by rw [HA.out];exact bV.out,b5.out⟩
     case rest =>
      obtain ⟨a3,n3,l3,hv,hr,hb⟩:=hcut;subst hv;obtain ⟨w3,ci⟩:∃ V,V=wc:=⟨_,rfl⟩;subst ci;have O:Hid (Below w1.heap.size w1 w3):=hb;have ao:Hid (RSS lo w3.heap.size w3 a3 n3 l3 (addW (rolesC x.d (rolesC x.c (kbR (xs.take j)))) x.r)):=hr;have cq:=hb.size;have cC:Hid (BoxA 39 w3 wr.heap.size kk (.int .i64 ek) (.slice b2 aY aZ) (.slice aX aV aW) (.slice aU aS aT) (.int .i64 fk) (.slice aR aP aQ) (.slice aO aM aN) (.slice aL aJ aK) (.slice ra rn rc) (.slice sa sn sc) (.slice aa an ac) (.slice ba bn bc)):=b8.out.below hb (by omega);clear m0 m1 m2 m3 m4 m5 m6 m7 m8 m9 cf ce cd hr hb;obtain ⟨m0,m1,m2,m3,m4,m5,m6,m7,m8,m9,cf,ce,cd⟩:=cC.out.cells;have bZ:Hid (∀ V,Below w1.heap.size w1 V→Below w.heap.size w V):=fun V hV=>Z.out.trans ((ar.out.mono Z.out.size).trans (hV.mono (by have:=Z.out.size;omega)))
      have bY:Hid (∀ V,Below w1.heap.size w1 V→Boxed V w.heap.size 25 (.slice (some ⟨b,off,none⟩) n D)):=fun V hV=>(hV.block _ (by omega)).trans ((ar.out.block _ al).trans G.out)
      by_cases hw0:sn=0
      · have HA:Hid (kbR (xs.take (j+1))=(addW (rolesC x.d (rolesC x.c (kbR (xs.take j)))) x.r)):=by unfold Hid;rw [ai.out];show addW (addW (rolesC x.d (rolesC x.c (kbR (xs.take j)))) x.r) x.s=_;unfold addW;rw [if_pos (by rw [c7.out];exact hw0)]
        have bk:¬ (0<(sn:Int)):=by omega
        have bs:Hid (RSS lo w3.heap.size w3 a3 n3 l3 (kbR (xs.take (j+1)))):=by unfold Hid;rw [HA.out];exact ao.out
        have af:Hid (Below w.heap.size w w3):=bZ.out _ O.out;have F:Hid (Boxed w3 w.heap.size 25 (.slice (some ⟨b,off,none⟩) n D)):=bY.out _ O.out;go_wp2_with fail;go_roundw
        case rel=>exact ⟨j+1,_,_,_,by omega,by go_num,rfl,bs.out,af.out,F.out⟩
        case measure=>simp [intOf];omega
      have HA:Hid (kbR (xs.take (j+1))=insW (addW (rolesC x.d (rolesC x.c (kbR (xs.take j)))) x.r) x.s):=by unfold Hid;rw [ai.out];show addW (addW (rolesC x.d (rolesC x.c (kbR (xs.take j)))) x.r) x.s=_;unfold addW;rw [if_neg (by rw [c7.out];exact hw0)]
      have bk:0<(sn:Int):=by omega
      go_wp2_with fail;refine (l2insert_any a3 n3 l3 _ sa sn sc x.s w3 ao.out ((cv.out _ O.out).mono (Nat.le_refl _) (by have:=O.out.size;omega)) (Nat.le_refl _) (by have:=ao.out.len;omega)).mono ?_;rintro e p1 ⟨v1,rfl,ae,I⟩;obtain ⟨a1,l1,rfl,T⟩:=ae.slice (by have:=O.out.size;omega) I.size;have b5:Hid (Below w1.heap.size w1 p1):=O.out.trans (I.mono O.out.size);rw [← HA.out] at T ⊢;obtain ⟨n1,a8⟩:∃ n1,n1=(kbR (xs.take (j+1))).length:=⟨_,rfl⟩;rw [← a8] at T ⊢;have bs:Hid (RSS lo p1.heap.size p1 a1 n1 l1 (kbR (xs.take (j+1)))):=T;have af:Hid (Below w.heap.size w p1):=bZ.out _ b5.out;have F:Hid (Boxed p1 w.heap.size 25 (.slice (some ⟨b,off,none⟩) n D)):=bY.out _ b5.out;clear ae I T a8;go_wp2_with fail;go_roundw
      case rel=>exact ⟨j+1,_,_,_,by omega,by go_num,rfl,bs.out,af.out,F.out⟩
      case measure=>simp [intOf];omega
  have HE:Hid (kbR xs=kbR (xs.take j)):=by unfold Hid;rw [List.take_of_length_le (by rw [HL.out];omega)]
  clear z A E;go_wp2_with fail;go_ret;exact ⟨la,ln,lc,rfl,by rw [HE.out];exact Y.out,Z.out⟩
set_option maxRecDepth 100000 in
set_option maxHeartbeats 4000000 in
theorem l3inds_any {a:Option Addr} {n D:Nat} {xs:List AX} {dp:Nat} {w:World} {lo hi:Nat} (h:RdK lo hi w dp a n D xs) (N:hi≤w.heap.size) (av:lo≤w.heap.size) (bg:∀ x∈xs,AxB x) (cH:n≤8) :
    Calls Tryz.prog 20 #[.agg #[.slice a n D]] w fun e w'=>∃ a' n' c',e=.returned (.slice a' n' c')∧RSS lo w'.heap.size w' a' n' c' (kbI xs)∧Below w.heap.size w w':=by
 have HK:Hid (RdK lo hi w dp a n D xs):=h;have HL:Hid (xs.length=n):=h.len;have bj:Hid (∀ x∈xs,AxB x):=bg;have hf:=h.fits;have ah:Below w.heap.size w (w.alloc (.cells #[.slice a n D] 25)):=(Below.refl _ _).alloc (Nat.le_refl _) _;have a0:Hid (Below w.heap.size w (w.alloc (.cells #[.slice a n D] 25))):=ah;have U:Hid (Boxed (w.alloc (.cells #[.slice a n D] 25)) w.heap.size 25 (.slice a n D)):=Boxed.new w _ _;clear h ah bg;go_enter Tryz.func20, Tryz.ntmps20;go_wp2_with fail;go_loopw [3,4] (fun l i wr=>∃ (j:Nat) (la:Option Addr) (ln lc:Nat),j≤n∧i=.int .i64 j∧l=.slice la ln lc∧RSS lo wr.heap.size wr la ln lc (kbI (xs.take j))∧Below w.heap.size w wr∧Boxed wr w.heap.size 25 (.slice a n D)) (fun _ i _=>n - (intOf i).toNat)
 case atStart=>exact ⟨0,_,_,_,Nat.zero_le _,rfl,rfl,RSS.nil _ _ _,a0.out,U.out⟩
 case round =>
  obtain ⟨j,la,ln,lc,hj,rfl,rfl,E,z,A⟩:=hrel;have cB:=A.cell;have al:=A.lt;have Z:Hid (Below w.heap.size w wr):=z;have G:Hid (Boxed wr w.heap.size 25 (.slice a n D)):=A;have Y:Hid (RSS lo wr.heap.size wr la ln lc (kbI (xs.take j))):=E;obtain ⟨bf,be⟩:=kbI_good (axb_take bj.out j);have bi:Hid (GoodV (kbI (xs.take j))):=bf;have cI:ln≤300:=by rw [E.len,List.length_take] at be;omega
  clear bf be;by_cases hlt:j<n
  · have a7:j<xs.length:=by rw [HL.out];exact hlt
    have hK:=HK.out.below z N;rcases hK.cells with hz | ⟨b,off,e1,c6,bA,hc⟩
    · omega
    subst e1;obtain ⟨c0,c1,c2,c3,d0,d1,d2,d3,ra,rn,rc,sa,sn,sc,aa,an,ac,ba,bn,bc,q0,q1,q2,q3,q4,q5,q6,q7,q8,q9,cE,bP,bO,bb⟩:=hc j hlt;have aj:Hid (RdA lo hi wr dp c0 c1 c2 c3 d0 d1 d2 d3 ra rn rc sa sn sc aa an ac ba bn bc (xs.getD j AX.zero)):=bb;have X:Hid (AxB (xs.getD j AX.zero)):=axb_getD bj.out a7;have ai:Hid (kbI (xs.take (j+1))=stI (kbI (xs.take j)) (xs.getD j AX.zero)):=kbI_take xs j a7;have bo:(j:Int)<(n:Int):=by omega
    have aA:b<wr.heap.size:=by have:=z.size;omega
    have a5:lo≤wr.heap.size:=Nat.le_trans av z.size;have ab:hi≤wr.heap.size:=Nat.le_trans N z.size;obtain ⟨x,hx⟩:∃ x,x=xs.getD j AX.zero:=⟨_,rfl⟩;rw [← hx] at aj X ai q0;obtain ⟨kk,bd⟩:∃ kk,kk=x.kind:=⟨_,rfl⟩;rw [← bd] at q0;clear hK hc bb z A E hx bd;have ca:Hid (x.a.length=an):=aj.out.a.len;have c9:Hid (x.b.length=bn):=aj.out.b.len;have cz:Hid (∀ V,Below wr.heap.size wr V→Rd lo hi V aa an ac x.a):=fun V hV=>aj.out.a.below hV ab
    have cy:Hid (∀ V,Below wr.heap.size wr V→Rd lo hi V ba bn bc x.b):=fun V hV=>aj.out.b.below hV ab
    have ct:(kbI (xs.take j)).length=ln:=Y.out.len;have cu:(addW (kbI (xs.take j)) x.a).length≤401:=by have:=addW_len X.out.a bi.out.srt bi.out.byt;omega
    have az:Hid (Below wr.heap.size wr wr):=Below.refl _ _;have d5:Hid (∀ V,Below wr.heap.size wr V→V.cell? ⟨w.heap.size,0,none⟩=some (.slice (some ⟨b,off,none⟩) n D)∧V.cell? ⟨b,off+j*13+11,none⟩=some (.slice aa an ac)∧V.cell? ⟨b,off+j*13+12,none⟩=some (.slice ba bn bc)):=fun V hV=>⟨(hV.cell (p:=⟨w.heap.size,0,none⟩) al).trans cB,(hV.cell (p:=⟨b,_,none⟩) aA).trans bP,(hV.cell (p:=⟨b,_,none⟩) aA).trans bO⟩
    go_upto_if 19 with fail
    go_cut [3] (fun v V=>∃ a' n' c',v=.slice a' n' c'∧RSS lo V.heap.size V a' n' c' (addW (kbI (xs.take j)) x.a)∧Below wr.heap.size wr V)
    case first =>
     by_cases hw0:an=0
     · have HA:Hid ((addW (kbI (xs.take j)) x.a)=(kbI (xs.take j))):=by unfold Hid addW;rw [if_pos (by rw [ca.out];exact hw0)]
       have bk:¬ (0<(an:Int)):=by omega
       go_wp2_with fail;go_meet
       case rel=>exact ⟨_,_,_,rfl,by rw [HA.out];exact Y.out,az.out⟩
     have HA:Hid ((addW (kbI (xs.take j)) x.a)=insW (kbI (xs.take j)) x.a):=by unfold Hid addW;rw [if_neg (by rw [ca.out];exact hw0)]
     have bk:0<(an:Int):=by omega
     go_wp2_with fail;refine (l2insert_any la ln lc _ aa an ac x.a wr Y.out ((cz.out _ az.out).mono (Nat.le_refl _) (by have:=az.out.size;omega)) (Nat.le_refl _) (by omega)).mono ?_;rintro e p1 ⟨v1,rfl,ae,I⟩;obtain ⟨a1,l1,rfl,T⟩:=ae.slice (by have:=az.out.size;omega) I.size;have bV:Hid (RSS lo p1.heap.size p1 a1 _ l1 (insW (kbI (xs.take j)) x.a)):=T;have b5:Hid (Below wr.heap.size wr p1):=az.out.trans (I.mono az.out.size);obtain ⟨n1,a8⟩:∃ n1,n1=(insW (kbI (xs.take j)) x.a).length:=⟨_,rfl⟩;rw [← a8] at bV ⊢;clear ae I T a8;go_wp2_with fail;go_meet
     case rel=>exact ⟨_,_,_,rfl,by rw [HA.out];exact bV.out,b5.out⟩
    case rest =>
     obtain ⟨a3,n3,l3,hv,hr,hb⟩:=hcut;subst hv;obtain ⟨w3,ci⟩:∃ V,V=wc:=⟨_,rfl⟩;subst ci;have O:Hid (Below wr.heap.size wr w3):=hb;have ao:Hid (RSS lo w3.heap.size w3 a3 n3 l3 (addW (kbI (xs.take j)) x.a)):=hr;have cq:=hb.size;clear hr hb;clear bP bO cB;obtain ⟨cB,bP,bO⟩:=d5.out _ O.out;have da:b<w3.heap.size:=by omega
     have bZ:Hid (∀ V,Below wr.heap.size wr V→Below w.heap.size w V):=fun V hV=>Z.out.trans (hV.mono Z.out.size)
     have bY:Hid (∀ V,Below wr.heap.size wr V→Boxed V w.heap.size 25 (.slice (some ⟨b,off,none⟩) n D)):=fun V hV=>(hV.block _ al).trans G.out
     by_cases hw0:bn=0
     · have HA:Hid (kbI (xs.take (j+1))=(addW (kbI (xs.take j)) x.a)):=by unfold Hid;rw [ai.out];show addW (addW (kbI (xs.take j)) x.a) x.b=_;unfold addW;rw [if_pos (by rw [c9.out];exact hw0)]
       have bk:¬ (0<(bn:Int)):=by omega
       have bs:Hid (RSS lo w3.heap.size w3 a3 n3 l3 (kbI (xs.take (j+1)))):=by unfold Hid;rw [HA.out];exact ao.out
       have af:Hid (Below w.heap.size w w3):=bZ.out _ O.out;have F:Hid (Boxed w3 w.heap.size 25 (.slice (some ⟨b,off,none⟩) n D)):=bY.out _ O.out;go_wp2_with fail;go_roundw
       case rel=>exact ⟨j+1,_,_,_,by omega,by go_num,rfl,bs.out,af.out,F.out⟩
       case measure=>simp [intOf];omega
     have HA:Hid (kbI (xs.take (j+1))=insW (addW (kbI (xs.take j)) x.a) x.b):=by unfold Hid;rw [ai.out];show addW (addW (kbI (xs.take j)) x.a) x.b=_;unfold addW;rw [if_neg (by rw [c9.out];exact hw0)]
     have bk:0<(bn:Int):=by omega
     go_wp2_with fail;refine (l2insert_any a3 n3 l3 _ ba bn bc x.b w3 ao.out ((cy.out _ O.out).mono (Nat.le_refl _) (by have:=O.out.size;omega)) (Nat.le_refl _) (by have:=ao.out.len;omega)).mono ?_;rintro e p1 ⟨v1,rfl,ae,I⟩;obtain ⟨a1,l1,rfl,T⟩:=ae.slice (by have:=O.out.size;omega) I.size;have b5:Hid (Below wr.heap.size wr p1):=O.out.trans (I.mono O.out.size);rw [← HA.out] at T ⊢;obtain ⟨n1,a8⟩:∃ n1,n1=(kbI (xs.take (j+1))).length:=⟨_,rfl⟩;rw [← a8] at T ⊢;have bs:Hid (RSS lo p1.heap.size p1 a1 n1 l1 (kbI (xs.take (j+1)))):=T;have af:Hid (Below w.heap.size w p1):=bZ.out _ b5.out;have F:Hid (Boxed p1 w.heap.size 25 (.slice (some ⟨b,off,none⟩) n D)):=bY.out _ b5.out;clear ae I T a8;go_wp2_with fail;go_roundw
     case rel=>exact ⟨j+1,_,_,_,by omega,by go_num,rfl,bs.out,af.out,F.out⟩
     case measure=>simp [intOf];omega
  have HE:Hid (kbI xs=kbI (xs.take j)):=by unfold Hid;rw [List.take_of_length_le (by rw [HL.out];omega)]
  clear z A E;go_wp2_with fail;go_ret;exact ⟨la,ln,lc,rfl,by rw [HE.out];exact Y.out,Z.out⟩
end
end Go.Proofs.YtocpeiaolofodaaGreat
