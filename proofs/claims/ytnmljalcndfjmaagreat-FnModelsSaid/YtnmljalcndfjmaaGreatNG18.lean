/- Several texts in one: HoldQ, ConOwnS, ReadI2, ReadI3, ReadI4, ReadI5, ReadI6, ReadI7, ReadI8, LawWords. -/
import Derived.Test.YtnmljalcndfjmaaGreatNG15
import Derived.Maps.AppendAt
import Derived.Test.YtnmljalcndfjmaaGreatNG14
import Derived.Deep.RegionHeldLaw
import Derived.Test.YtnmljalcndfjmaaGreatNG16
import Derived.Deep.RegionHeld
import Derived.Deep.RegionLaw
import Derived.Deep.AppendLies
import Derived.Defers
import Derived.Recover
import Derived.Test.YtnmljalcndfjmaaGreatNG11
import Derived.Lib.SlBytesConst
namespace Go.Proofs.YtnmljalcndfjmaaGreat

section
open Go.RowKit Go.Deep
theorem Tryz.infoClaim:(Tryz.prog.info? 80).map (fun i=>(i.zero,i.size,i.bytes))=some (some .nilIface,1,16):=by kernel_rfl
theorem Tryz.undInner:Tryz.prog.underlying 128=some (.slice 80):=by kernel_rfl
def tyQ (k:Int):Nat:=if k=0 then 130 else if k=2 then 133 else if k=3 then 134 else if k=4 then 135 else if k=5 then 136 else if k=6 then 138 else if k=7 then 141 else 142
def fieldsQ (k:Int) (kv nv rv:Value):Value:=if k=2 then .agg #[kv,nv] else if k=6 then .agg #[kv,rv] else if k=7 then .agg #[kv,rv] else .agg #[kv]
def RdQ (P:Nat→Prop) (lo hi:Nat) (w:World):Nat→Value→CN→Prop
 | 0,_,_=>False
 | d+1,v,c=>∃ ka kn kc na nn nc ra rn rc,v=.iface (tyQ c.kind) (fieldsQ c.kind (.slice ka kn kc) (.slice na nn nc) (.slice ra rn rc))∧Rd lo hi w na nn nc c.name∧Rd lo hi w ra rn rc c.role∧c.kids.length=kn∧(kn≤kc∧kc≤9223372036854775807) ∧
     (kn=0∨∃ b,ka=some ⟨b,0,none⟩∧P b∧∀ i,i<kn→∃ u,w.cell? ⟨b,i,none⟩=some u∧RdQ P lo hi w d u (c.kids.getD i CN.zero))
theorem RdQ.keep {P Q:Nat→Prop} {lo hi:Nat} {w w':World} (hP:∀ b,P b→Q b∧w'.heap[b]?=w.heap[b]?) (hs:Same lo hi w w'):∀ {d:Nat} {v:Value} {c:CN},RdQ P lo hi w d v c→RdQ Q lo hi w' d v c:=by
 intro d
 induction d with
 | zero=>intro v c h;exact h
 | succ d ih =>
  intro v c h;obtain ⟨ka,kn,kc,na,nn,nc,ra,rn,rc,hv,h1,h2,h3,h4,h6⟩:=h;refine ⟨ka,kn,kc,na,nn,nc,ra,rn,rc,hv,h1.same hs,h2.same hs,h3,h4,?_⟩;rcases h6 with h6 | ⟨b,e,hb,hc⟩
  · exact .inl h6
  refine .inr ⟨b,e,(hP b hb).1,fun i E=>?_⟩;obtain ⟨u,hu,hr⟩:=hc i E;exact ⟨u,by rw [World.cell?_of_block (w:=w) (by exact (hP b hb).2)];exact hu,ih hr⟩
theorem RdQ.iface {P:Nat→Prop} {lo hi:Nat} {w:World} {d:Nat} {v:Value} {c:CN} (h:RdQ P lo hi w d v c):∃ t z,v=.iface t z:=by
 cases d with
 | zero=>exact h.elim
 | succ d =>
  obtain ⟨ka,kn,kc,na,nn,nc,ra,rn,rc,hv,_⟩:=h;exact ⟨_,_,hv⟩
structure RowQ (base lo hi:Nat) (w:World) (d:Nat) (v:Value) (cs:List CN) (us:List Value):Prop where
 row:w.ownsRow base 80 1 v cs.length us
 kid:∀ i,i<cs.length→∃ u,us[i]?=some u∧RdQ (fun b=>base≤b∧b<w.heap.size∧v.ownBlock≠some b) lo hi w d u (cs.getD i CN.zero)
theorem RowQ.nil (base lo hi:Nat) (w:World) (d:Nat):RowQ base lo hi w d (.slice none 0 0) [] []:=⟨World.ownsRow_nil _ _ _ _,fun i E=>by simp at E⟩
theorem RowQ.below {base lo hi:Nat} {w w':World} {d:Nat} {v:Value} {cs:List CN} {us:List Value} (h:RowQ base lo hi w d v cs us) (hb:Below w.heap.size w w') (hh:hi≤w.heap.size):RowQ base lo hi w' d v cs us:=by
 obtain ⟨⟨r1,r2⟩,hk⟩:=h;refine ⟨⟨r1,?_⟩,fun i E=>?_⟩
 · rcases r2 with r2 | ⟨g,ao,cur,hv,hg,aB,r⟩
   · exact .inl r2
   exact .inr ⟨g,ao,cur,hv,hg,by rw [hb.block g (Array.getElem?_eq_some_iff.1 aB).1];exact aB,r⟩
 obtain ⟨u,hu,hr⟩:=hk i E;exact ⟨u,hu,hr.keep (fun b ag=>⟨⟨ag.1,Nat.lt_of_lt_of_le ag.2.1 hb.size,ag.2.2⟩,hb.block b ag.2.1⟩) (Same.of_below hb hh)⟩
theorem RowQ.snoc {base lo hi:Nat} {w W w6:World} {d:Nat} {v v' u:Value} {c:CN} {cs:List CN} {us:List Value} (h:RowQ base lo hi w d v cs us) (hW:Below w.heap.size w W) (hq:RdQ (fun b=>w.heap.size≤b∧b<W.heap.size) lo hi W d u c) (aI:base≤w.heap.size) (hh:hi≤base)
    (A:w6.ownsRow base 80 1 v' (cs.length+1) (us++[u])) (q:W.grownBy w6 v.ownBlock) (I:v'.ownBlock=v.ownBlock∨v'.ownBlock=some W.heap.size):RowQ base lo hi w6 d v' (cs++[c]) (us++[u]):=by
 have X:=h.row.lt;have hs:=hW.size;have b9:=q.size;have hl:us.length=cs.length:=by have:=h.row.1;omega
 have G:Same lo hi W w6:=fun b h1 h2=>q.block b (by omega) (fun e=>by have:=(X b e.symm).1;omega)
 refine ⟨by simpa using A,fun i E=>?_⟩;simp only [List.length_append,List.length_cons,List.length_nil] at E;by_cases e:i<cs.length
 · obtain ⟨u',hu,hr⟩:=h.kid i e;refine ⟨u',by rw [List.getElem?_append_left (by omega)];exact hu,?_⟩;rw [show (cs++[c]).getD i CN.zero=cs.getD i CN.zero from by rw [List.getD,List.getElem?_append_left e,List.getD]];refine hr.keep (fun b hb=>⟨⟨hb.1,by omega,?_⟩,(q.block b (by omega) (fun e=>hb.2.2 e.symm)).trans (hW.block b hb.2.1)⟩) (fun b h1 h2=>(G b h1 h2).trans (hW.block b (by omega)));rcases I with e' | e'
   · rw [e'];exact hb.2.2
   rw [e'];intro e'';simp only [Option.some.injEq] at e'';omega
 obtain rfl:i=cs.length:=by omega
 refine ⟨u,by rw [← hl];simp,?_⟩;rw [show (cs++[c]).getD cs.length CN.zero=c from by simp [List.getD]];refine hq.keep (fun b hb=>⟨⟨by omega,by omega,?_⟩,q.block b hb.2 (fun e=>by have:=(X b e.symm).2;omega)⟩) G;rcases I with e' | e'
 · rw [e'];intro e'';have:=(X b e'').2;omega
 rw [e'];intro e'';simp only [Option.some.injEq] at e'';omega
theorem RowQ.slice {base lo hi:Nat} {w:World} {d:Nat} {v:Value} {cs:List CN} {us:List Value} (h:RowQ base lo hi w d v cs us):∃ ka kc,v=.slice ka cs.length kc∧(cs.length≤kc∧kc≤9223372036854775807)∧(cs.length=0∨∃ b,ka=some ⟨b,0,none⟩∧(base≤b∧b<w.heap.size)∧∀ i,i<cs.length→∃ u,w.cell? ⟨b,i,none⟩=some u∧RdQ (fun b=>base≤b∧b<w.heap.size) lo hi w d u (cs.getD i CN.zero)):=by
 have y:=h.row;rcases h.row.2 with ⟨hv,h0⟩ | ⟨g,ao,cur,hv,hg,hb,hn,hc,_,_⟩
 · exact ⟨none,0,by rw [hv,h0],⟨by omega,by omega⟩,.inl h0⟩
 subst hv;unfold maxLen at hc;refine ⟨_,ao,rfl,⟨hn,hc⟩,.inr ⟨g,rfl,⟨hg,(Array.getElem?_eq_some_iff.1 hb).1⟩,fun i E=>?_⟩⟩;obtain ⟨u,hu,hr⟩:=h.kid i E;refine ⟨u,?_,hr.keep (fun b hb=>⟨⟨hb.1,hb.2.1⟩,rfl⟩) (fun _ _ _=>rfl)⟩;have h1:=h.row.1;have:=y.cellAt i (by omega);rw [this];exact hu
theorem RdQ.make {base lo hi:Nat} {w:World} {d:Nat} {v:Value} {c:CN} {us:List Value} {B:Nat} (h:RowQ base lo hi w d v c.kids us) (hB:B≤base) {na ra:Option Addr} {nn nc rn rc:Nat} (hn:Rd lo hi w na nn nc c.name) (hr:Rd lo hi w ra rn rc c.role):RdQ (fun b=>B≤b∧b<w.heap.size) lo hi w (d+1) (.iface (tyQ c.kind) (fieldsQ c.kind v (.slice na nn nc) (.slice ra rn rc))) c:=by
 obtain ⟨ka,kc,rfl,hf,hc⟩:=h.slice;refine ⟨ka,c.kids.length,kc,na,nn,nc,ra,rn,rc,rfl,hn,hr,rfl,hf,?_⟩;rcases hc with hc | ⟨b,e,hb,hc⟩
 · exact .inl hc
 refine .inr ⟨b,e,⟨by omega,hb.2⟩,fun i E=>?_⟩;obtain ⟨u,hu,aN⟩:=hc i E;exact ⟨u,hu,aN.keep (fun b hb=>⟨⟨by omega,hb.2⟩,rfl⟩) (fun _ _ _=>rfl)⟩
def CqP (d:Nat):Prop:=∀ (v:Value) (c:CN) (w:World) (lo hi:Nat),RdC lo hi w d v c→hi≤w.heap.size→wfC c=true →
 Calls Tryz.prog 44 #[v] w fun e w'=>∃ v',e=.returned v'∧RdQ (fun b=>w.heap.size≤b∧b<w'.heap.size) lo hi w' d v' c∧Below w.heap.size w w'
set_option maxRecDepth 100000 in
set_option maxHeartbeats 4000000 in
theorem cqP_of {d:Nat} (H:∀ d',d=d'+1→CqP d'):CqP d:=by
 intro v c w lo hi h al av;cases d with
 | zero=>exact h.elim
 | succ d =>
  have HH:Hid (CqP d):=H d rfl;obtain ⟨U,R,T,O,J,N,a4,F,a3,rfl,az,ay,Z⟩:=h;obtain ⟨aP,au,aR,aQ⟩:=wf_kids av;obtain ⟨k,hk⟩:∃ k,k=c.kind:=⟨_,rfl⟩;rw [← hk] at aP aR aQ ⊢;have HK:Hid (k=c.kind):=hk;have aG:Hid (c.kids.length=F):=Z.len
  have bc:F≤2:=by
   have h1:=Z.len;have:kidN k≤2:=by unfold kidN;repeat' split <;> try omega
   omega
  obtain ⟨W0,a2⟩:∃ W0,W0=w.alloc (.cells #[.int .i64 k,.slice U R T,.slice O J N,.slice a4 F a3] 30):=⟨_,rfl⟩;have aW:Hid (W0=w.alloc (.cells #[.int .i64 k,.slice U R T,.slice O J N,.slice a4 F a3] 30)):=a2;have aM:w.heap.size<W0.heap.size:=by rw [a2];simp
  have Y:Below w.heap.size w W0:=by rw [a2];exact (Below.refl _ _).alloc (Nat.le_refl _) _
  have am:BoxC W0 w.heap.size (.int .i64 k) (.slice U R T) (.slice O J N) (.slice a4 F a3):=by rw [a2];exact BoxC.new w _ _ _ _
  have bf:Hid (Below w.heap.size w W0):=Y;have b7:Hid (BoxC W0 w.heap.size (.int .i64 k) (.slice U R T) (.slice O J N) (.slice a4 F a3)):=am;have aT:Hid (wfL c.kids=true):=au;have aF:Hid (∀ V,Below W0.heap.size W0 V→Rd lo hi V U R T c.name∧Rd lo hi V O J N c.role):=fun V hV=>⟨(az.below Y al).below hV (by omega),(ay.below Y al).below hV (by omega)⟩
  have b5:Hid (RdL (RdC lo hi W0 d) lo hi W0 a4 F a3 c.kids):=Z.below Y al;have aq:Hid (∀ {V:World} {us:List Value} {u:Value},RowQ W0.heap.size lo hi V d u c.kids us→Below W0.heap.size W0 V→RdQ (fun b=>w.heap.size≤b∧b<V.heap.size) lo hi V (d+1) (.iface (tyQ k) (fieldsQ k u (.slice U R T) (.slice O J N))) c∧Below w.heap.size w V):=fun {V us u} hr hV=>⟨by rw [hk];exact RdQ.make hr (by omega) (aF.out V hV).1 (aF.out V hV).2,Y.trans (hV.mono (by omega))⟩
  have be:=Z.fits;obtain ⟨i0,aS,aL,aK,aJ⟩:=info_parts Tryz.infoClaim;obtain ⟨b0,b1,b2,b3⟩:=am.cells;clear az ay Z Y am a2 au av H hk;go_enter Tryz.func44, Tryz.ntmps44;go_upto_region 1 with fail;rw [← aW.out];go_wp2_with fail;go_loopw [3,9] (fun l i wr=>∃ (j:Nat) (ov:Value) (us:List Value),j≤F∧i=.int .i64 j∧ov=l∧RowQ W0.heap.size lo hi wr d ov (c.kids.take j) us∧Below W0.heap.size W0 wr) (fun _ i _=>F - (intOf i).toNat)
  case atStart=>exact ⟨0,_,[],Nat.zero_le _,rfl,rfl,RowQ.nil _ _ _ _ _,Below.refl _ _⟩
  case round =>
   obtain ⟨j,ov,us,hj,rfl,rfl,y,D⟩:=hrel;have HR:Hid (RowQ W0.heap.size lo hi wr d ov (c.kids.take j) us):=y;have HB:Hid (Below W0.heap.size W0 wr):=D;have ai:=D.size;clear b0 b1 b2 b3;obtain ⟨b0,b1,b2,b3⟩:=(b7.out.below D aM).cells;by_cases X:j<F
   · have aA:j<c.kids.length:=by rw [aG.out];exact X
     have bd:(j:Int)<(F:Int):=by omega
     have aX:Hid (c.kids.take (j+1)=c.kids.take j++[c.kids.getD j CN.zero]):=take_succ_getD _ _ _ aA;have aE:Hid ((c.kids.take j).length=j):=by unfold Hid;rw [List.length_take];omega
     rcases (b5.out.below D (by omega)).cells with hz | ⟨kb,ko,e1,_,b8,hc⟩
     · omega
     subst e1;obtain ⟨v0,v1,v2,v3,q0,q1,q2,q3,aj⟩:=hc j X;obtain ⟨yk,ab,a9,aa,a8,a6,a7,ae,ac,ad,rfl,rfl,rfl,rfl⟩:=aj.sh.form;obtain ⟨W2,a1⟩:∃ W,W=wr.alloc (.cells #[.int .i64 yk,.slice ab a9 aa,.slice a8 a6 a7,.slice ae ac ad] 30):=⟨_,rfl⟩;have aV:Hid (W2=wr.alloc (.cells #[.int .i64 yk,.slice ab a9 aa,.slice a8 a6 a7,.slice ae ac ad] 30)):=a1;have an:Below wr.heap.size wr W2:=by rw [a1];exact (Below.refl _ _).alloc (Nat.le_refl _) _
     have aH:Hid (Below wr.heap.size wr W2):=an;have ba:wr.heap.size<W2.heap.size:=by rw [a1];simp
     have aC:BoxC W2 wr.heap.size (.int .i64 yk) (.slice ab a9 aa) (.slice a8 a6 a7) (.slice ae ac ad):=by rw [a1];exact BoxC.new wr _ _ _ _
     have aZ:Hid (RdC lo hi W2 d (.agg #[.int .i64 yk,.slice ab a9 aa,.slice a8 a6 a7,.slice ae ac ad]) (c.kids.getD j CN.zero)):=aj.below an (by omega);have aU:Hid (wfC (c.kids.getD j CN.zero)=true):=wfL_getD _ _ aA aT.out;obtain ⟨p0,p1,p2,p3⟩:=aC.cells;have bb:kb<wr.heap.size:=by omega
     clear hc aj y D a1 an aC;go_upto_region 5 with fail;rw [← aV.out];go_wp2_with fail;refine (HH.out _ _ W2 lo hi aZ.out (by omega) aU.out).mono ?_;rintro e w5 ⟨v5,rfl,ak,af⟩;obtain ⟨qt,qz,rfl⟩:=ak.iface;obtain ⟨Wn,aD⟩:∃ W,W=w5.alloc (.cells #[.iface qt qz] 80):=⟨_,rfl⟩;have a0:Below w5.heap.size w5 Wn:=by rw [aD];exact (Below.refl _ _).alloc (Nat.le_refl _) _
     have ah:Hid (Below wr.heap.size wr Wn):=aH.out.trans ((af.trans (a0.mono af.size)).mono aH.out.size);have b4:Hid (RdQ (fun b=>wr.heap.size≤b∧b<Wn.heap.size) lo hi Wn d (.iface qt qz) (c.kids.getD j CN.zero)):=ak.keep (fun b hb=>⟨⟨by omega,Nat.lt_of_lt_of_le hb.2 a0.size⟩,a0.block b hb.2⟩) (Same.of_below a0 (by have:=af.size;omega));have a5:Hid (Wn.ownsRow W0.heap.size 80 1 ov j us):=by have:=(HR.out.below ah.out (by omega)).row;rw [aE.out] at this;exact this
     have ax:W0.heap.size≤Wn.heap.size:=Nat.le_trans ai ah.out.size
     have b6:Hid (∀ {w6:World} {v':Value},w6.ownsRow W0.heap.size 80 1 v' (j+1) (us++[.iface qt qz])→Wn.grownBy w6 ov.ownBlock→(v'.ownBlock=ov.ownBlock∨v'.ownBlock=some Wn.heap.size)→RowQ W0.heap.size lo hi w6 d v' (c.kids.take (j+1)) (us++[.iface qt qz])∧Below W0.heap.size W0 w6):=by
      intro w6 v' A q I;refine ⟨?_,(HB.out.trans (ah.out.mono ai)).grown q ax (fun g hg=>(a5.out.lt g hg).1)⟩;rw [aX.out];exact RowQ.snoc HR.out ah.out b4.out ai (by omega) (by rw [aE.out];exact A) q I
     subst aD;clear ak af a0 q0 q1 q2 q3 p0 p1 p2 p3;go_wp2_with (at_builtin;refine wpList_append_own_at _ rfl (.tmp 13) (.tmp 16) 128 rfl W0.heap.size 80 i0 .nilIface 1 16 Tryz.undInner aS aL aK aJ rfl (by decide) ov j us rfl a5.out ⟨w5.heap.size,0,none⟩ 1 1 [.iface qt qz] rfl rfl (cell_one_new _ _ _) (by simp [Value.oneCell']) (by unfold maxLen;omega) (by omega) ax ?_;intro v' w6 A q ap I;have HN:Hid (RowQ W0.heap.size lo hi w6 d v' (c.kids.take (j+1)) (us++[.iface qt qz])∧Below W0.heap.size W0 w6):=b6.out A q I;clear A q ap I);go_roundw
     case rel=>exact ⟨j+1,_,_,by omega,by go_num,rfl,HN.out⟩
     case measure=>simp [intOf];omega
   have aY:Hid (c.kids.take j=c.kids):=List.take_of_length_le (by rw [aG.out];omega);have ar:Hid (RdQ (fun b=>w.heap.size≤b∧b<wr.heap.size) lo hi wr (d+1) (.iface (tyQ k) (fieldsQ k ov (.slice U R T) (.slice O J N))) c∧Below w.heap.size w wr):=aq.out (us:=us) (by have:=HR.out;rwa [aY.out] at this) HB.out;obtain ⟨oa,ol,oc,aO⟩:∃ oa ol oc,ov=.slice oa ol oc:=by obtain ⟨ka,kc,hv,_⟩:=y.slice;exact ⟨_,_,_,hv⟩
   subst aO;clear y D;rcases (show k=0∨k=1∨k=2∨k=3∨k=4∨k=5∨k=6∨k=7 by omega) with e0 | e0 | e0 | e0 | e0 | e0 | e0 | e0
   all_goals
    subst e0;go_wp2_with fail;go_ret;exact ⟨_,rfl,ar.out⟩
theorem claimOf_any:∀ d,CqP d
 | 0=>cqP_of (fun d' h=>by omega)
 | d+1=>cqP_of (fun d' h=>by obtain rfl:d=d':=(by omega);exact claimOf_any d)
end

section
open Go.RowKit
def Fr (base:Nat) (w:World) (v:Value) (zs:List Int) (b:Nat):Prop:=∃ a c,v=.slice a zs.length c∧OwB w a zs.length c zs b 0∧(zs.length=0∨(base≤b∧b<w.heap.size))
theorem Fr.isSlice {base:Nat} {w:World} {v:Value} {zs:List Int} {b:Nat} (h:Fr base w v zs b):∃ a n c,v=.slice a n c:=by
 obtain ⟨a,c,h,_⟩:=h;exact ⟨_,_,_,h⟩
theorem Fr.below {base:Nat} {w w':World} {v:Value} {zs:List Int} {b:Nat} (h:Fr base w v zs b) (hb:Below w.heap.size w w'):Fr base w' v zs b:=by
 obtain ⟨a,c,h1,h2,h3⟩:=h;refine ⟨a,c,h1,h2.keep' ?_,?_⟩
 · rcases h3 with e | e
   · exact .inl e
   exact .inr (hb.block _ e.2)
 rcases h3 with e | e
 · exact .inl e
 exact .inr ⟨e.1,Nat.lt_of_lt_of_le e.2 hb.size⟩
theorem Fr.mono {base base':Nat} {w:World} {v:Value} {zs:List Int} {b:Nat} (h:Fr base w v zs b) (hb:base'≤base):Fr base' w v zs b:=by
 obtain ⟨a,c,h1,h2,h3⟩:=h;refine ⟨a,c,h1,h2,?_⟩;rcases h3 with e | e
 · exact .inl e
 exact .inr ⟨by omega,e.2⟩
theorem Fr.notBox {base:Nat} {w:World} {v:Value} {zs:List Int} {b o:Nat} {k:Int} {v1 v2 v3:Value} (h:Fr base w v zs b) (hb:BoxC w o (.int .i64 k) v1 v2 v3):zs.length=0∨b≠o:=by
 obtain ⟨a,c,h1,h2,h3⟩:=h;by_cases hz:zs.length=0
 · exact .inl hz
 refine .inr (fun e=>?_);subst e;rcases h2.cells with e | ⟨_,hc⟩
 · exact hz e
 have:=hc 0 (by omega);rw [Nat.add_zero,hb.cells.1] at this;simp at this
structure PreS (W0 W:World) (ov:Value) (k:Int) (name role:List Int) (ob bn br:Nat) (nv rv:Value):Prop where
 ptr:ov=.pointer (some ⟨ob,0,none⟩)
 box:BoxC W ob (.int .i64 k) nv rv (.slice none 0 0)
 ge:W0.heap.size≤ob
 bel:Below W0.heap.size W0 W
 nam:Fr W0.heap.size W nv name bn
 nne:name.length=0∨bn≠ob
 rol:Fr W0.heap.size W rv role br
 rne:role.length=0∨br≠ob
theorem PreS.last {W0 w1 w2:World} {k:Int} {nv rv:Value} {name role:List Int} {bn br:Nat} (h1:Fr W0.heap.size w1 nv name bn) (b1:Below W0.heap.size W0 w1) (h2:Fr w1.heap.size w2 rv role br) (b2:Below w1.heap.size w1 w2) :
    PreS W0 (w2.alloc (.cells #[.int .i64 k,nv,rv,.slice none 0 0] 30)) (.pointer (some ⟨w2.heap.size,0,none⟩)) k name role w2.heap.size bn br nv rv:=by
 have q:=b1.size;have E:=b2.size;have b3:Below w2.heap.size w2 (w2.alloc (.cells #[.int .i64 k,nv,rv,.slice none 0 0] 30)):=(Below.refl _ _).alloc (Nat.le_refl _) _;have y:=(h1.below b2);refine ⟨rfl,BoxC.new w2 _ _ _ _,by omega,(b1.trans (b2.mono q)).trans (b3.mono (by omega)),y.below b3,?_,(h2.mono q).below b3,?_⟩
 · obtain ⟨_,_,_,_,e | e⟩:=y
   · exact .inl e
   exact .inr (by omega)
 obtain ⟨_,_,_,_,e | e⟩:=h2
 · exact .inl e
 exact .inr (by omega)
theorem PreS.set {W0 w1 w2:World} {k:Int} {nv rv:Value} {name role:List Int} {bn br ob:Nat} {z:Int} {z1 z2 z3:Value} (h1:Fr W0.heap.size w1 nv name bn) (b1:Below W0.heap.size W0 w1) (h2:Fr w1.heap.size w2 rv role br) (b2:Below w1.heap.size w1 w2) (hb:BoxC w2 ob (.int .i64 z) z1 z2 z3) (ho:W0.heap.size≤ob) :
    PreS W0 ((((w2.setCell ⟨ob,0,none⟩ (.int .i64 k)).setCell ⟨ob,1,none⟩ nv).setCell ⟨ob,2,none⟩ rv).setCell ⟨ob,3,none⟩ (.slice none 0 0)) (.pointer (some ⟨ob,0,none⟩)) k name role ob bn br nv rv:=by
 have q:=b1.size;have y:=(h1.below b2);have A:=h2.mono q;have en:=y.notBox hb;have er:=A.notBox hb;have D:((((w2.setCell ⟨ob,0,none⟩ (.int .i64 k)).setCell ⟨ob,1,none⟩ nv).setCell ⟨ob,2,none⟩ rv).setCell ⟨ob,3,none⟩ (.slice none 0 0)).heap.size=w2.heap.size:=by simp
 have keep:∀ {base b:Nat} {v:Value} {zs:List Int},Fr base w2 v zs b→(zs.length=0∨b≠ob)→Fr base ((((w2.setCell ⟨ob,0,none⟩ (.int .i64 k)).setCell ⟨ob,1,none⟩ nv).setCell ⟨ob,2,none⟩ rv).setCell ⟨ob,3,none⟩ (.slice none 0 0)) v zs b:=by
  intro base b v zs h e;obtain ⟨a,c,q1,q2,q3⟩:=h;refine ⟨a,c,q1,q2.keep' ?_,?_⟩
  · rcases e with e | e
    · exact .inl e
    exact .inr (heap_set4 _ _ _ _ _ e)
  rw [D];exact q3
 exact ⟨rfl,hb.set4 _ _ _ _,ho,((((b1.trans (b2.mono q)).setCell ho _).setCell ho _).setCell ho _).setCell ho _,keep y en,en,keep A er,er⟩
end

section
open Go.RowKit
def RP (ts:List Tok) (gs:List (Nat × Nat)) (en:Int) (g pb i:Nat) (w:World) (d:Nat) (r:Res) (e:Ending) (w':World):Prop :=
 Bt pb w.heap.size w w'∧match r with
  | .bad p=>e=gaveUp p
  | .ok c j=>∃ v L,e=.returned v∧OwnR ts gs i j w.heap.size w' d v c L∧RdrAt w' pb g j ts en
theorem RP.good {ts:List Tok} {gs:List (Nat × Nat)} {en:Int} {g pb i:Nat} {w:World} {d:Nat} {r:Res} {c:CN} {j:Nat} {v:Value} {L:List (Addr × IntKind)} {w':World} (hb:Bt pb w.heap.size w w') (hr:r=.ok c j) (hO:OwnR ts gs i j w.heap.size w' d v c L) (hR:RdrAt w' pb g j ts en):RP ts gs en g pb i w d r (.returned v) w':=by
 subst hr;exact ⟨hb,v,L,rfl,hO,hR⟩
theorem OwnR.name {base pb g:Nat} {ts:List Tok} {gs:List (Nat × Nat)} {i s:Nat} {w:World} {d:Nat} {a:Option Addr} {c:Nat} (hT:TkM base pb w g ts gs) (hi:i<ts.length) (hx:txv (ts.getD i Tok.zero) (gs.getD i (0,0))=.slice a (wordI ts i).length c) :
    ∃ L,OwnR ts gs i (i+1) s w (d+1) (.agg #[.int .i64 2,.slice a (wordI ts i).length c,.slice none 0 0,.slice none 0 0]) (.mk 2 (wordI ts i) [] []) L:=by
 obtain ⟨a',c',q,hO,_,hf⟩:=hT.word hi;rw [hx] at q;simp only [Value.slice.injEq,true_and] at q;obtain ⟨rfl,rfl⟩:=q;have nilB:∀ b o,OwB w none 0 0 [] b o:=fun b o=>⟨rfl,⟨by simp,by omega⟩,by simp,.inl rfl⟩
 refine ⟨_,⟨⟨a,(wordI ts i).length,c,none,0,0,none,0,0,(gs.getD i (0,0)).1,0,0,0,0,0,fun _=>[],rfl,hO,nilB _ _,⟨rfl,⟨by simp,by omega⟩,.inl rfl⟩,rfl⟩,?_,?_,?_⟩⟩
 · have e:leafB 0 0 0++leafK 0 0 (fun _=>[]) 0=[]:=rfl;rw [e,List.append_nil];exact leafB_nodup _ _ _
 · intro x hx;have e:leafB 0 0 0++leafK 0 0 (fun _=>[]) 0=[]:=rfl;rw [e,List.append_nil] at hx;obtain ⟨j,hj,rfl⟩:=mem_leafB.1 hx;exact hf (fun e=>by rw [e] at hj;simp at hj) _
 intro x hx;have e:leafB 0 0 0++leafK 0 0 (fun _=>[]) 0=[]:=rfl;rw [e,List.append_nil] at hx;obtain ⟨j,hj,rfl⟩:=mem_leafB.1 hx;exact .inr ⟨i,Nat.le_refl _,Nat.lt_succ_self _,hi,fun e=>by rw [show wordI ts i=[] from e] at hj;simp at hj,rfl⟩
theorem OwnR.leaf (ts:List Tok) (gs:List (Nat × Nat)) (i j s:Nat) (w:World) (d:Nat) (k:Int):OwnR ts gs i j s w (d+1) (.agg #[.int .i64 k,.slice none 0 0,.slice none 0 0,.slice none 0 0]) (.mk k [] [] []) []:=by
 have nilB:∀ b o,OwB w none 0 0 [] b o:=fun b o=>⟨rfl,⟨by simp,by omega⟩,by simp,.inl rfl⟩
 exact ⟨⟨none,0,0,none,0,0,none,0,0,0,0,0,0,0,0,fun _=>[],rfl,nilB _ _,nilB _ _,⟨rfl,⟨by simp,by omega⟩,.inl rfl⟩,rfl⟩,by simp,fun x hx=>by simp at hx,Use.nil _ _ _ _ _ _⟩
theorem OwnR.to {ts:List Tok} {gs:List (Nat × Nat)} {i j s:Nat} {w w':World} {d:Nat} {v:Value} {c:CN} {L:List (Addr × IntKind)} (h:OwnR ts gs i j s w d v c L) (hk:∀ x∈L,w'.heap[x.1.block]?=w.heap[x.1.block]?) (hs:w.heap.size≤w'.heap.size):OwnR ts gs i j s w' d v c L :=
 ⟨h.ow.keep hk,h.nd,fun x hx=>(World.frozen?_of_block (w:=w) (hk x hx)).trans (h.fr x hx),h.us.mono (Nat.le_refl _) (Nat.le_refl _) (Nat.le_refl _) hs⟩
theorem OwnR.low {ts:List Tok} {gs:List (Nat × Nat)} {i j s s':Nat} {w:World} {d:Nat} {v:Value} {c:CN} {L:List (Addr × IntKind)} (h:OwnR ts gs i j s w d v c L) (hs:s'≤s):OwnR ts gs i j s' w d v c L:=⟨h.ow,h.nd,h.fr,h.us.mono (Nat.le_refl _) (Nat.le_refl _) hs (Nat.le_refl _)⟩
end

section
open Go.RowKit
end

section
open Go.RowKit
end

section
open Go.RowKit
theorem BoxC.set2 {W:World} {b:Nat} {v0 v1 v2 v3:Value} (h:BoxC W b v0 v1 v2 v3) (v:Value):BoxC (W.setCell ⟨b,2,none⟩ v) b v0 v1 v v3:=by
 unfold BoxC;rw [heap_setCell_same W b 2 _ _ v h];rfl
end

section
open Go.RowKit
def BoxI (W:World) (b:Nat) (z:Int):Prop:=W.heap[b]?=some (.cells #[.int .i64 z] 3 (0,0))
theorem BoxI.cell {W:World} {b:Nat} {z:Int} (h:BoxI W b z):W.cell? ⟨b,0,none⟩=some (.int .i64 z):=by
 unfold BoxI at h;simp [World.cell?,h]
theorem BoxI.frz {W:World} {b:Nat} {z:Int} (h:BoxI W b z) (o:Nat):W.frozen? ⟨b,o,none⟩=false:=by
 unfold BoxI at h;simp [World.frozen?,h]
theorem BoxI.lt {W:World} {b:Nat} {z:Int} (h:BoxI W b z):b<W.heap.size:=(Array.getElem?_eq_some_iff.1 h).1
theorem BoxI.set {W:World} {b:Nat} {z:Int} (h:BoxI W b z) (y:Int):BoxI (W.setCell ⟨b,0,none⟩ (.int .i64 y)) b y:=by
 unfold BoxI;rw [heap_setCell_same W b 0 _ _ _ h];rfl
theorem BoxI.of {W W':World} {b:Nat} {z:Int} (h:BoxI W b z) (e:W'.heap[b]?=W.heap[b]?):BoxI W' b z:=e.trans h
theorem BoxI.new (W:World) (z:Int):BoxI (W.alloc (.cells #[.int .i64 z] 3)) W.heap.size z:=by
 show (W.heap.push _)[W.heap.size]?=_
 simp
end

section
open Go.RowKit
theorem OwnT.set {base:Nat} {w:World} {v:Value} {ts:List Tok} {gs:List (Nat × Nat)} (h:OwnT base w v ts gs) {o i:Nat} (ho:o<base) (x:Value):OwnT base (w.setCell ⟨o,i,none⟩ x) v ts gs :=
 ⟨h.len,ownsRow_setCell_below h.row (a:=⟨o,i,none⟩) ho x,fun j hj ht=>⟨(h.txt j hj ht).1,(h.txt j hj ht).2.1.setOf (a:=⟨o,i,none⟩) (by have:=(h.txt j hj ht).1;show _≠o;omega),(h.txt j hj ht).2.2⟩,h.byte,h.dist⟩
theorem OwnC.none (base:Nat) (w:World) (d:Nat):OwnC base w (d+1) (.agg #[.int .i64 0,.slice none 0 0,.slice none 0 0,.slice none 0 0]) CN.zero []:=by
 have h:=OwnR.leaf [] [] 0 0 0 w d 0;exact ⟨h.ow,h.nd,h.fr,fun x hx=>by simp at hx⟩
def AnsP (w:World) (r:CN × Int) (e:Ending) (w':World):Prop:=∃ v L,e=.returned (.tuple #[v,.int .i64 r.2])∧OwnC w.heap.size w' 6 v r.1 L∧Below w.heap.size w w'
theorem AnsP.mk {w w':World} {r:CN × Int} {c:CN} {p:Int} {v:Value} {L:List (Addr × IntKind)} (hr:r=(c,p)) (hO:OwnC w.heap.size w' 6 v c L) (hB:Below w.heap.size w w'):AnsP w r (.returned (.tuple #[v,.int .i64 p])) w':=by
 subst hr;exact ⟨v,L,rfl,hO,hB⟩
end

section
open Go.RowKit
end

section
open Go.RowKit
theorem rd_lits (w:World) (zs:List Int) (mk:Nat × Nat) (hn:zs.length≤1000) (q:∀ i,0≤zs.getD i 0∧zs.getD i 0≤255) :
    Rd w.heap.size (w.heap.size+1) (w.alloc (.cells (zs.map (Value.int .u8)).toArray 5 mk)) (some ⟨w.heap.size,0,none⟩) zs.length zs.length zs:=by
 refine ⟨rfl,⟨Nat.le_refl _,by omega⟩,q,.inr ⟨_,_,rfl,Nat.le_refl _,Nat.lt_succ_self _,fun i hi=>?_⟩⟩
 have hb:(w.alloc (.cells (zs.map (Value.int .u8)).toArray 5 mk)).heap[w.heap.size]?=some (.cells (zs.map (Value.int .u8)).toArray 5 mk):=by
  show (w.heap.push _)[w.heap.size]?=_
  simp
 unfold World.cell?;simp only [];rw [hb];simp [List.getD,hi]
theorem byteLit {zs:List Int} (h:zs.all (fun x=>decide (0≤x) && decide (x≤255))=true):∀ i,0≤zs.getD i 0∧zs.getD i 0≤255:=by
 intro i;by_cases hi:i<zs.length
 · have:=List.all_eq_true.1 h _ (List.getElem_mem hi);simp only [Bool.and_eq_true,decide_eq_true_eq] at this;simpa [List.getD,hi] using this
 simp [List.getD,List.getElem?_eq_none (Nat.le_of_not_lt hi)]
end

end Go.Proofs.YtnmljalcndfjmaaGreat
