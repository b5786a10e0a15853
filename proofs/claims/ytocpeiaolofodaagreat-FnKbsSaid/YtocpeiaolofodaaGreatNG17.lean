/- Several texts in one: ReadI1, KrBack. -/
import Derived.Test.YtocpeiaolofodaaGreatNG16
import Derived.Test.YtocpeiaolofodaaGreatNG9
import Derived.Test.YtocpeiaolofodaaGreatNG13
import Derived.Test.YtocpeiaolofodaaGreatReadBack
import Derived.Test.YtocpeiaolofodaaGreatNG15
namespace Go.Proofs.YtocpeiaolofodaaGreat

section
open Go.RowKit
def gaveUp (p:Int):Ending:=.panicked [{ v:=.iface 82 (.int .i64 p),recovered:=false }]
theorem hereI_lt {ts:List Tok} {en:Int} {i:Nat} (h:i<ts.length):hereI ts en i=(ts.getD i Tok.zero).place:=if_pos h
theorem hereI_end {ts:List Tok} {en:Int} {i:Nat} (h:ts.length≤i):hereI ts en i=en:=if_neg (by omega)
set_option maxHeartbeats 400000 in
theorem here_any (base pb g i:Nat) (ts:List Tok) (gs:List (Nat × Nat)) (en:Int) (w:World) (hR:RdrAt w pb g i ts en) (hT:TkM base pb w g ts gs) (hi:i≤ts.length) :
    Calls Tryz.prog 51 #[.pointer (some ⟨pb,0,none⟩)] w fun e w'=>e=.returned (.int .i64 (hereI ts en i))∧w'=w:=by
 obtain ⟨a,c,hB,ha,A,F⟩:=hR;obtain ⟨b0,b1⟩:=hB.cells;by_cases z:i<ts.length
 · obtain ⟨c0,c1,c2⟩:=hT.cell i z;have HE:=hereI_lt (en:=en) z;rcases ha with ha | rfl
   · omega
   obtain ⟨m,hm⟩:∃ m,ts.length - i=m+1:=⟨ts.length - i - 1,by omega⟩;rw [hm] at b0 A;rw [HE];obtain ⟨pl,T⟩:∃ pl,pl=(ts.getD i Tok.zero).place:=⟨_,rfl⟩;rw [← T] at c1 ⊢;obtain ⟨o,ho⟩:∃ o,o=i*3:=⟨_,rfl⟩;rw [← ho] at c1 b0;clear HE T ho hm hT hB hi z c0 c2;go_enter Tryz.func51, Tryz.ntmps51;go_wp2;go_ret;exact ⟨rfl,rfl⟩
 have HE:=hereI_end (en:=en) (ts:=ts) (i:=i) (by omega);rw [show ts.length - i=0 by omega] at b0;rw [HE];clear HE hT hB hi z ha A;go_enter Tryz.func51, Tryz.ntmps51;go_wp2;go_ret;exact ⟨rfl,rfl⟩
set_option maxHeartbeats 400000 in
theorem take_bad (base pb g i:Nat) (ts:List Tok) (gs:List (Nat × Nat)) (en k:Int) (w:World) (hR:RdrAt w pb g i ts en) (hT:TkM base pb w g ts gs) (hi:i≤ts.length) (hk:isI ts k i=false) :
    Calls Tryz.prog 75 #[.pointer (some ⟨pb,0,none⟩),.int .i64 k] w fun e w'=>e=gaveUp (hereI ts en i)∧Below w.heap.size w w':=by
 have HR:Hid (RdrAt w pb g i ts en):=hR;have HT:Hid (TkM base pb w g ts gs):=hT;obtain ⟨a,c,hB,ha,A,F⟩:=hR;have hl:=hB.lt;obtain ⟨b0,b1⟩:=hB.cells;have I:Below w.heap.size w (w.alloc (.cells #[.int .i64 0,.int .i64 0,.slice none 0 0] 115)):=(Below.refl _ _).alloc (Nat.le_refl _) _;have D:Hid (Below w.heap.size w (w.alloc (.cells #[.int .i64 0,.int .i64 0,.slice none 0 0] 115))):=I;by_cases z:i<ts.length
 · obtain ⟨c0,c1,c2⟩:=hT.cell i z;rcases ha with ha | rfl
   · omega
   obtain ⟨m,hm⟩:∃ m,ts.length - i=m+1:=⟨ts.length - i - 1,by omega⟩;rw [hm] at b0 A
   have Z:((ts.getD i Tok.zero).kind != k)=true:=by
    simp only [isI,z,decide_true,Bool.true_and,decide_eq_false_iff_not] at hk;simpa using hk
   have a0:g<w.heap.size:=by rcases hT.glt with h | h <;> omega
   obtain ⟨kd,V⟩:∃ kd,kd=(ts.getD i Tok.zero).kind:=⟨_,rfl⟩;rw [← V] at c0 Z;obtain ⟨o,ho⟩:∃ o,o=i*3:=⟨_,rfl⟩;rw [← ho] at c0 b0;clear V ho hm hT hB z c1 c2 hk I;go_enter Tryz.func75, Tryz.ntmps75;go_wp2_with fail;refine (here_any base pb g i ts gs en _ (HR.out.below D.out) (HT.out.below (D.out.mono (Nat.le_of_lt hl))) hi).mono ?_;rintro e w' ⟨rfl,hw⟩;rw [hw];clear hw;go_wp2;exact ⟨rfl,rfl,D.out⟩
 rw [show ts.length - i=0 by omega] at b0;clear hT hB z ha A hk I;go_enter Tryz.func75, Tryz.ntmps75;go_wp2_with fail;refine (here_any base pb g i ts gs en _ (HR.out.below D.out) (HT.out.below (D.out.mono (Nat.le_of_lt hl))) hi).mono ?_;rintro e w' ⟨rfl,hw⟩;rw [hw];clear hw;go_wp2;exact ⟨rfl,rfl,D.out⟩
def BoxK3 (W:World) (b:Nat) (v0 v1 v2:Value):Prop:=W.heap[b]?=some (.cells #[v0,v1,v2] 115 (0,0))
theorem BoxK3.cells {W:World} {b:Nat} {v0 v1 v2:Value} (h:BoxK3 W b v0 v1 v2):W.cell? ⟨b,0,none⟩=some v0∧W.cell? ⟨b,1,none⟩=some v1∧W.cell? ⟨b,2,none⟩=some v2:=by
 unfold BoxK3 at h;refine ⟨?_,?_,?_⟩ <;> simp [World.cell?,h]
theorem BoxK3.frz {W:World} {b:Nat} {v0 v1 v2:Value} (h:BoxK3 W b v0 v1 v2) (o:Nat):W.frozen? ⟨b,o,none⟩=false:=by
 unfold BoxK3 at h;simp [World.frozen?,h]
theorem BoxK3.new (W:World) (v0 v1 v2:Value):BoxK3 (W.alloc (.cells #[v0,v1,v2] 115)) W.heap.size v0 v1 v2:=by
 show (W.heap.push _)[W.heap.size]?=_
 simp
theorem BoxK3.of {W W':World} {b:Nat} {v0 v1 v2:Value} (h:BoxK3 W b v0 v1 v2) (e:W'.heap[b]?=W.heap[b]?):BoxK3 W' b v0 v1 v2:=e.trans h
theorem BoxK3.set3 {W:World} {b:Nat} {v0 v1 v2:Value} (h:BoxK3 W b v0 v1 v2) (x0 x1 x2:Value):BoxK3 (((W.setCell ⟨b,0,none⟩ x0).setCell ⟨b,1,none⟩ x1).setCell ⟨b,2,none⟩ x2) b x0 x1 x2:=by
 unfold BoxK3 at h ⊢;have e0:=heap_setCell_same W b 0 _ _ x0 h;have e1:=heap_setCell_same _ b 1 _ _ x1 e0;have e2:=heap_setCell_same _ b 2 _ _ x2 e1;rw [e2];rfl
theorem box_step {w:World} {pb:Nat} {lv:Value} {en:Int} (h:BoxR w pb lv en) (v:Value) (o1 o2:Obj):BoxR (((w.setCell ⟨pb,0,none⟩ v).alloc o1).alloc o2) pb v en:=by
 have h1:=h.set0 v;have h2:BoxR ((w.setCell ⟨pb,0,none⟩ v).alloc o1) pb v en:=h1.of (Below.heap_alloc _ _ _ h1.lt);exact h2.of (Below.heap_alloc _ _ _ h2.lt)
theorem RdrAt.step {w:World} {pb g i':Nat} {lv:Value} {en:Int} {ts:List Tok} (h:BoxR w pb lv en) (a':Option Addr) (m' c':Nat) (o1 o2:Obj) (hm:m'=ts.length - i') (ha:ts.length=i'∨a'=some ⟨g,i'*3,none⟩) (hc:m'≤c') (F:c'≤9223372036854775807) :
    RdrAt (((w.setCell ⟨pb,0,none⟩ (.slice a' m' c')).alloc o1).alloc o2) pb g i' ts en:=⟨a',c',by rw [← hm];exact box_step h _ _ _,ha,by omega,F⟩
theorem bt_step (w:World) (pb:Nat) (v:Value) (o1 o2:Obj):Bt pb w.heap.size w (((w.setCell ⟨pb,0,none⟩ v).alloc o1).alloc o2) :=
 (((Bt.refl pb w.heap.size w).set (p:=⟨pb,0,none⟩) (.inr rfl) v).alloc (by simp) o1).alloc (by simp) o2
set_option maxHeartbeats 800000 in
theorem take_ok (base pb g i:Nat) (ts:List Tok) (gs:List (Nat × Nat)) (en k:Int) (w:World) (hR:RdrAt w pb g i ts en) (hT:TkM base pb w g ts gs) (hk:isI ts k i=true) :
    Calls Tryz.prog 75 #[.pointer (some ⟨pb,0,none⟩),.int .i64 k] w fun e w'=>e=.returned (.agg #[.int .i64 k,.int .i64 (hereI ts en i),txv (ts.getD i Tok.zero) (gs.getD i (0,0))])∧RdrAt w' pb g (i+1) ts en∧Bt pb w.heap.size w w':=by
 obtain ⟨a,c,hB,ha,A,F⟩:=hR;have hl:=hB.lt;have z:=isI_lt hk;obtain ⟨c0,c1,c2⟩:=hT.cell i z;rw [isI_kind hk] at c0;rw [← hereI_lt (en:=en) z] at c1;obtain ⟨p,hp⟩:∃ p,p=hereI ts en i:=⟨_,rfl⟩
 obtain ⟨ta,tn,tc,O⟩:∃ ta tn tc,txv (ts.getD i Tok.zero) (gs.getD i (0,0))=.slice ta tn tc:=by
  obtain ⟨a,c,h⟩:=txv_form (ts.getD i Tok.zero) (gs.getD i (0,0));exact ⟨_,_,_,h⟩
 rw [O] at c2 ⊢;rw [← hp] at c1 ⊢;have a0:g<w.heap.size:=by rcases hT.glt with h | h <;> omega
 have a5:g≠pb:=by rcases hT.glt with h | h <;> omega
 rcases ha with ha | rfl
 · omega
 obtain ⟨m,hm⟩:∃ m,ts.length - i=m+1:=⟨ts.length - i - 1,by omega⟩;rw [hm] at hB A;obtain ⟨o,ho⟩:∃ o,o=i*3:=⟨_,rfl⟩;rw [← ho] at c0 c1 c2 hB;obtain ⟨b0,b1⟩:=hB.cells;have bf:=hB.frz 0;have HB:Hid (BoxR w pb (.slice (some ⟨g,o,none⟩) (m+1) c) en):=hB;have HO:Hid (o=i*3):=ho;have HM:Hid (ts.length - i=m+1):=hm;have a6:Hid (i<ts.length):=z;clear ho hm hT hB z hk hp O;by_cases hc:c=1
 · subst hc;have J:Hid (m=0):=by unfold Hid;omega
   go_enter Tryz.func75, Tryz.ntmps75;go_wp2;refine bodyPost_ret (v:=.agg #[.int .i64 k,.int .i64 p,.slice ta tn tc]) (by simp [results, Tryz.results75,go_sem]) rfl ?_;exact ⟨rfl,RdrAt.step HB.out _ _ _ _ _ (by have:=J.out;have:=HM.out;omega) (.inl (by have:=J.out;have:=HM.out;omega)) (by have:=J.out;omega) (by omega),bt_step _ _ _ _ _⟩
 have a1:Hid (o+3=(i+1)*3):=by have:=HO.out;unfold Hid;omega
 have a2:Hid (m=ts.length - (i+1)):=by have:=HM.out;unfold Hid;omega
 go_enter Tryz.func75, Tryz.ntmps75;go_wp2;refine bodyPost_ret (v:=.agg #[.int .i64 k,.int .i64 p,.slice ta tn tc]) (by simp [results, Tryz.results75,go_sem]) rfl ?_;exact ⟨rfl,RdrAt.step HB.out _ _ _ _ _ a2.out (.inr (by rw [a1.out])) (by omega) (by omega),bt_step _ _ _ _ _⟩
theorem kindW_no (l:List UInt8) (h:∀ k:Nat,k≤7→((wordB k).toList == l)=false):kindW l=2:=by
 have h0:=h 0 (by omega);have h1:=h 1 (by omega);have h3:=h 3 (by omega);have h4:=h 4 (by omega);have h5:=h 5 (by omega);have h6:=h 6 (by omega);have h7:=h 7 (by omega);simp [wordB,ByteArray.toList_eq] at h0 h1 h3 h4 h5 h6 h7;unfold kindW;rw [if_neg (fun e=>h0 e.symm),if_neg (fun e=>h1 e.symm),if_neg (fun e=>h3 e.symm),if_neg (fun e=>h4 e.symm),if_neg (fun e=>h5 e.symm),if_neg (fun e=>h6 e.symm),if_neg (fun e=>h7 e.symm)]
theorem kindW_at (l:List UInt8) (k:Nat) (hk:k≤7) (h:((wordB k).toList == l)=true):kindW l=k:=by
 have hl:l=(wordB k).toList:=(eq_of_beq h).symm;subst hl;rw [ByteArray.toList_eq]
 match k,hk with
 | 0,_ | 1,_ | 2,_ | 3,_ | 4,_ | 5,_ | 6,_ | 7,_=>rfl
set_option maxRecDepth 100000 in
set_option maxHeartbeats 1000000 in
theorem conKind_any (a:Option Addr) (n E:Nat) (zs:List Int) (w:World) {lo hi:Nat} (h:Rd lo hi w a n E zs) :
    Calls Tryz.prog 81 #[.slice a n E] w fun e w'=>e=.returned (.int .i64 (kindW (strOfNums zs).toList))∧∃ nd,w'=w.drewN nd:=by
 have H:Hid (Rd lo hi w a n E zs):=h;clear h;obtain ⟨s,HS⟩:∃ s,Hid (s=strOfNums zs):=⟨_,rfl⟩;rw [← HS.out];go_enter Tryz.func81, Tryz.ntmps81;go_wp2_with fail;go_loopw [3] (fun i wr=>∃ k nd:Nat,k≤8∧i=.int .i64 k∧wr=w.drewN nd∧∀ j:Nat,j<k→((wordB j).toList == s.toList)=false) (fun i _=>8 - (intOf i).toNat)
 case atStart=>exact ⟨0,0,Nat.zero_le _,rfl,rfl,fun j hj=>by omega⟩
 case round =>
  obtain ⟨k,nd,hk,rfl,N,U⟩:=hrel;have Y:Hid (∀ j:Nat,j<k→((wordB j).toList == s.toList)=false):=U;have G:Hid (wr=w.drewN nd):=N;clear U N;by_cases z:k≤7
  · have a4:(k:Int)≤7:=by omega
    have X:∀ m,(convert 22 9 (.slice a n E)).run Tryz.prog (wr.drewN m)=.ok (.string s) (wr.drewN m):=by
     intro m;rw [HS.out,G.out];exact conv_any (H.out.same (fun _ _ _=>rfl))
    have a3:(convert 22 9 (.slice a n E)).run Tryz.prog wr.drew=.ok (.string s) wr.drew:=X 1;clear X;obtain ⟨t,HT⟩:∃ t,Hid (t=wordB k):=⟨_,rfl⟩;cases hb:(t.toList == s.toList)
    · have HF:Hid (∀ j:Nat,j<k+1→((wordB j).toList == s.toList)=false):=by
       intro j hj;by_cases e:j=k
       · subst e;rw [← HT.out];exact hb
       exact Y.out j (by omega)
      go_wp2_with fail;go_region_with (go_at_call 86;refine (conWord_any _ _).mono ?_;rintro e w' ⟨rfl,hw⟩;rw [hw,← HT.out];clear hw)
      all_goals
       go_wp2;go_roundw
       case rel=>exact ⟨k+1,nd+1,by omega,by go_num,by rw [G.out];rfl,HF.out⟩
       case measure=>simp [intOf];omega
    have HF:Hid (kindW s.toList=k):=kindW_at _ k z (by rw [← HT.out];exact hb);go_wp2_with fail;go_region_with (go_at_call 86;refine (conWord_any _ _).mono ?_;rintro e w' ⟨rfl,hw⟩;rw [hw,← HT.out];clear hw)
    all_goals
     go_wp2;go_ret;exact ⟨ri HF.out.symm,nd+1,by rw [G.out];rfl⟩
  have HF:Hid (kindW s.toList=2):=kindW_no _ (fun j hj=>Y.out j (by omega));go_wp2;go_ret;exact ⟨ri HF.out.symm,nd,G.out⟩
end

section
open Go.RowKit
def flatF (x:AX) (f:Nat):List (Int × List Int):=if f=67 then flat x.c else if f=68 then flat x.d else if f=82 then [(2,x.r)] else if f=83 then [(2,x.s)] else if f=65 then [(2,x.a)] else [(2,x.b)]
def flatFs (x:AX):List Nat→List (Int × List Int)
 | []=>[]
 | f :: fs=>flatF x f++flatFs x fs
def flatX (x:AX):List (Int × List Int):=(1,axWord x.kind) :: (3,[]) :: (flatFs x (fieldsN x.kind)++[(4,[])])
def flatK:List AX→List (Int × List Int)
 | []=>[]
 | x :: xs=>flatX x++flatK xs
def FldOk (x:AX) (f:Nat):Prop:=(f=67∧conOk x.c=true)∨(f=68∧conOk x.d=true)∨(f=82∧lowOk x.r=true)∨(f=83∧lowOk x.s=true)∨(f=65∧lowOk x.a=true)∨(f=66∧lowOk x.b=true)
theorem fitL_low {zs:List Int} {wt:Bool} (h:fitL zs wt=true) (hw:wt=true):lowOk zs=true:=by subst hw;exact h
theorem fitC_con {c:CN} {wt:Bool} (h:fitC c wt=true) (hw:wt=true):conOk c=true:=by subst hw;exact h
theorem flds_ok {x:AX} (h:axOk x=true):∀ f∈fieldsN x.kind,FldOk x f:=by
 obtain ⟨⟨k0,k1⟩,hc,hd,hr,hs,ha,hb⟩:=axOk_facts h;have hk:x.kind=0∨x.kind=1∨x.kind=2∨x.kind=3∨x.kind=4∨x.kind=5:=by omega
 intro f hf;unfold FldOk;rcases hk with e | e | e | e | e | e <;> rw [e] at hf hc hd hr hs ha hb <;> simp [fieldsN] at hf
 · rcases hf with rfl | rfl
   · exact .inl ⟨rfl,fitC_con hc rfl⟩
   exact .inr (.inl ⟨rfl,fitC_con hd rfl⟩)
 · rcases hf with rfl | rfl
   · exact .inl ⟨rfl,fitC_con hc rfl⟩
   exact .inr (.inl ⟨rfl,fitC_con hd rfl⟩)
 · rcases hf with rfl | rfl
   · exact .inl ⟨rfl,fitC_con hc rfl⟩
   exact .inr (.inl ⟨rfl,fitC_con hd rfl⟩)
 · rcases hf with rfl | rfl
   · exact .inr (.inr (.inl ⟨rfl,fitL_low hr rfl⟩))
   exact .inr (.inr (.inr (.inl ⟨rfl,fitL_low hs rfl⟩)))
 · rcases hf with rfl | rfl
   · exact .inr (.inr (.inr (.inr (.inl ⟨rfl,fitL_low ha rfl⟩))))
   exact .inl ⟨rfl,fitC_con hc rfl⟩
 rcases hf with rfl | rfl | rfl
 · exact .inr (.inr (.inl ⟨rfl,fitL_low hr rfl⟩))
 · exact .inr (.inr (.inr (.inr (.inl ⟨rfl,fitL_low ha rfl⟩))))
 exact .inr (.inr (.inr (.inr (.inr ⟨rfl,fitL_low hb rfl⟩))))
theorem run_fld {x:AX} {f:Nat} {zs pre R:List Int} (h:FldOk x f) (hz:zs=pre++(fldT x f++R)) (hR:Ends R):TokRun zs pre.length (pre.length+(fldT x f).length) (flatF x f):=by
 rcases h with ⟨rfl,h⟩ | ⟨rfl,h⟩ | ⟨rfl,h⟩ | ⟨rfl,h⟩ | ⟨rfl,h⟩ | ⟨rfl,h⟩
 · exact run_con x.c zs pre R (wfC_of_ok h) hz hR
 · exact run_con x.d zs pre R (wfC_of_ok h) hz hR
 · exact run_low hz hR h
 · exact run_low hz hR h
 · exact run_low hz hR h
 exact run_low hz hR h
theorem ends_flds (x:AX) (fs:List Nat) {R:List Int} (hR:Ends R):Ends (fldsT x 32 fs++R):=by
 cases fs with
 | nil=>simpa [fldsT] using hR
 | cons f fs=>simp only [fldsT,List.append_assoc,List.cons_append];exact ends32 _
theorem run_flds {x:AX}:∀ (fs:List Nat) (zs pre R:List Int),(∀ f∈fs,FldOk x f)→zs=pre++(fldsT x 32 fs++R)→Ends R→TokRun zs pre.length (pre.length+(fldsT x 32 fs).length) (flatFs x fs)
 | [],zs,pre,R,_,_,_=>by simp [fldsT,flatFs];exact TokRun.nil _ _
 | f :: fs,zs,pre,R,h,hz,hR=>by
  have z1:zs=pre++32 :: (fldT x f++(fldsT x 32 fs++R)):=by rw [hz];simp [fldsT]
  have r1:=run_blank z1;have z2:zs=(pre++[32])++(fldT x f++(fldsT x 32 fs++R)):=by rw [z1];simp
  have r2:=run_fld (h f (by simp)) z2 (ends_flds x fs hR);have z3:zs=(pre++[32]++fldT x f)++(fldsT x 32 fs++R):=by rw [z2];simp
  have r3:=run_flds fs zs (pre++[32]++fldT x f) R (fun g hg=>h g (by simp [hg])) z3 hR;have e1:(pre++[32]).length=pre.length+1:=by simp
  have e2:(pre++[32]++fldT x f).length=(pre++[32]).length+(fldT x f).length:=by rw [List.length_append]
  have e3:pre.length+(fldsT x 32 (f :: fs)).length=(pre++[32]++fldT x f).length+(fldsT x 32 fs).length:=by simp [fldsT];omega
  rw [← e1] at r1;rw [← e2] at r2;rw [e3];have:=r1.comp (r2.comp r3);simpa [flatFs] using this
theorem axWord_up {k:Int} (h:0≤k∧k≤5):upOk (axWord k)=true:=by
 have:k=0∨k=1∨k=2∨k=3∨k=4∨k=5:=by omega
 rcases this with rfl | rfl | rfl | rfl | rfl | rfl <;> decide
theorem flds_cons {k:Int} (h:0≤k∧k≤5):∃ f fs,fieldsN k=f :: fs:=by
 have:k=0∨k=1∨k=2∨k=3∨k=4∨k=5:=by omega
 rcases this with rfl | rfl | rfl | rfl | rfl | rfl <;> exact ⟨_,_,rfl⟩
theorem run_ax {x:AX} {zs pre R:List Int} (h:axOk x=true) (hz:zs=pre++(axSay x++R)):TokRun zs pre.length (pre.length+(axSay x).length) (flatX x):=by
 have hk:=(axOk_facts h).1;have hf:=flds_ok h;obtain ⟨f,fs,e⟩:=flds_cons hk;unfold axSay at hz ⊢;unfold flatX;rw [e] at hz hf ⊢;have z1:zs=pre++(axWord x.kind++(40 :: (fldT x f++(fldsT x 32 fs++(41 :: R))))):=by rw [hz];simp [fldsT]
 have r1:=run_up z1 (ends40 _) (axWord_up hk);have z2:zs=(pre++axWord x.kind)++40 :: (fldT x f++(fldsT x 32 fs++(41 :: R))):=by rw [z1];simp
 have r2:=run_open z2;have z3:zs=(pre++axWord x.kind++[40])++(fldT x f++(fldsT x 32 fs++(41 :: R))):=by rw [z2];simp
 have r3:=run_fld (hf f (by simp)) z3 (ends_flds x fs (ends41 _));have z4:zs=(pre++axWord x.kind++[40]++fldT x f)++(fldsT x 32 fs++(41 :: R)):=by rw [z3];simp
 have r4:=run_flds fs zs (pre++axWord x.kind++[40]++fldT x f) (41 :: R) (fun g hg=>hf g (by simp [hg])) z4 (ends41 _);have z5:zs=(pre++axWord x.kind++[40]++fldT x f++fldsT x 32 fs)++41 :: R:=by rw [z4];simp
 have r5:=run_close z5;have e1:(pre++axWord x.kind).length=pre.length+(axWord x.kind).length:=by simp
 have e2:(pre++axWord x.kind++[40]).length=(pre++axWord x.kind).length+1:=by simp;omega
 have e3:(pre++axWord x.kind++[40]++fldT x f).length=(pre++axWord x.kind++[40]).length+(fldT x f).length:=by rw [List.length_append]
 have e4:(pre++axWord x.kind++[40]++fldT x f++fldsT x 32 fs).length=(pre++axWord x.kind++[40]++fldT x f).length+(fldsT x 32 fs).length:=by rw [List.length_append]
 have e5:pre.length+(axWord x.kind++fldsT x 40 (f :: fs)++[41]).length=(pre++axWord x.kind++[40]++fldT x f++fldsT x 32 fs).length+1:=by simp [fldsT];omega
 rw [← e1] at r1;rw [← e2] at r2;rw [← e3] at r3;rw [← e4] at r4;rw [e5];have:=r1.comp (r2.comp (r3.comp (r4.comp r5)));simpa [flatFs] using this
theorem run_line {zs pre R:List Int} (hz:zs=pre++10 :: R):TokRun zs pre.length (pre.length+1) []:=by
 intro f z hf;have hl:pre.length<zs.length:=by rw [hz];simp
 cases f with
 | zero=>omega
 | succ f =>
  have hb:blankB (zs.getD pre.length 0)=true:=by rw [hz];simp [List.getD,blankB]
  exact ⟨[],f,by rw [toksFrom_blank _ _ _ _ hl hb];simp,by omega,rfl⟩
theorem run_axs:∀ (xs:List AX) (zs pre R:List Int),(∀ x∈xs,axOk x=true)→zs=pre++(textK xs++R)→TokRun zs pre.length (pre.length+(textK xs).length) (flatK xs)
 | [],zs,pre,R,_,_=>by simp [textK,flatK];exact TokRun.nil _ _
 | x :: xs,zs,pre,R,h,hz=>by
  have z1:zs=pre++(axSay x++(10 :: (textK xs++R))):=by rw [hz];simp [textK]
  have r1:=run_ax (h x (by simp)) z1;have z2:zs=(pre++axSay x)++10 :: (textK xs++R):=by rw [z1];simp
  have r2:=run_line z2;have z3:zs=(pre++axSay x++[10])++(textK xs++R):=by rw [z2];simp
  have r3:=run_axs xs zs (pre++axSay x++[10]) R (fun y hy=>h y (by simp [hy])) z3;have e1:(pre++axSay x).length=pre.length+(axSay x).length:=by simp
  have e2:(pre++axSay x++[10]).length=(pre++axSay x).length+1:=by simp;omega
  have e3:pre.length+(textK (x :: xs)).length=(pre++axSay x++[10]).length+(textK xs).length:=by simp [textK];omega
  rw [← e1] at r1;rw [← e2] at r2;rw [e3];have:=r1.comp (r2.comp r3);simpa [flatK] using this
theorem toks_textK {xs:List AX} (h:∀ x∈xs,axOk x=true) (hl:(textK xs).length≤1500):(toks (textK xs)).2=-1∧(toks (textK xs)).1.map (fun t=>(t.kind,t.text))=flatK xs:=by
 have r:=run_axs xs (textK xs) [] [] h (by simp);obtain ⟨ms,f',e,_,hm⟩:=r ((textK xs).length+1) [] (by simp)
 have e4:toks (textK xs)=(ms,-1):=by
  unfold toks;rw [if_neg (by omega)];rw [show ([]:List Int).length=0 from rfl] at e;rw [e,toksFrom_stop _ _ _ _ (by simp)];simp
 rw [e4];exact ⟨rfl,hm⟩
def setF (x y:AX) (f:Nat):AX:=if f=67 then { y with c:=x.c } else if f=68 then { y with d:=x.d } else if f=82 then { y with r:=x.r } else if f=83 then { y with s:=x.s } else if f=65 then { y with a:=x.a } else { y with b:=x.b }
theorem conOk_parts {c:CN} (h:conOk c=true):(parts c 1).all okOne=true:=by unfold conOk at h;rw [Bool.and_eq_true] at h;exact h.2
theorem fieldR_flat {x y:AX} {f:Nat} {ts:List Tok} {en:Int} {i:Nat} (h:FldOk x f) (hS:StandAt ts i (flatF x f)):fieldR ts en f y i=.ok (setF x y f) (i+(flatF x f).length):=by
 rcases h with ⟨rfl,h⟩ | ⟨rfl,h⟩ | ⟨rfl,h⟩ | ⟨rfl,h⟩ | ⟨rfl,h⟩ | ⟨rfl,h⟩
 · have:=conR_flat x.c 1 6 ts en i (conOk_parts h) rfl hS;unfold fieldR;rw [if_pos rfl,this];rfl
 · have:=conR_flat x.d 1 6 ts en i (conOk_parts h) rfl hS;unfold fieldR;rw [if_neg (by decide),if_pos rfl,this];rfl
 · obtain ⟨h1,h2⟩:=hS.head;unfold fieldR putB;rw [if_neg (by decide),if_neg (by decide),if_pos h1,h2];rfl
 · obtain ⟨h1,h2⟩:=hS.head;unfold fieldR putB;rw [if_neg (by decide),if_neg (by decide),if_pos h1,h2];rfl
 · obtain ⟨h1,h2⟩:=hS.head;unfold fieldR putB;rw [if_neg (by decide),if_neg (by decide),if_pos h1,h2];rfl
 obtain ⟨h1,h2⟩:=hS.head;unfold fieldR putB;rw [if_neg (by decide),if_neg (by decide),if_pos h1,h2];rfl
theorem fieldsR_flat {x:AX} {ts:List Tok} {en:Int}:∀ (fs:List Nat) (y:AX) (i:Nat),(∀ f∈fs,FldOk x f)→StandAt ts i (flatFs x fs)→fieldsR ts en fs y i=.ok (fs.foldl (setF x) y) (i+(flatFs x fs).length)
 | [],y,i,_,_=>by simp [fieldsR,flatFs]
 | f :: fs,y,i,h,hS=>by
  rw [flatFs] at hS ⊢;rw [fieldsR,fieldR_flat (h f (by simp)) hS.left];simp only;rw [fieldsR_flat fs (setF x y f) _ (fun g hg=>h g (by simp [hg])) hS.right,List.foldl_cons,List.length_append,Nat.add_assoc]
theorem kx0:kindX (strOfNums (axWord 0)).toList=0:=by kernel_rfl
theorem kx1:kindX (strOfNums (axWord 1)).toList=1:=by kernel_rfl
theorem kx2:kindX (strOfNums (axWord 2)).toList=2:=by kernel_rfl
theorem kx3:kindX (strOfNums (axWord 3)).toList=3:=by kernel_rfl
theorem kx4:kindX (strOfNums (axWord 4)).toList=4:=by kernel_rfl
theorem kx5:kindX (strOfNums (axWord 5)).toList=5:=by kernel_rfl
theorem kindX_word {k:Int} (h:0≤k∧k≤5):kindX (strOfNums (axWord k)).toList=k:=by
 have:k=0∨k=1∨k=2∨k=3∨k=4∨k=5:=by omega
 rcases this with rfl | rfl | rfl | rfl | rfl | rfl
 · exact kx0
 · exact kx1
 · exact kx2
 · exact kx3
 · exact kx4
 exact kx5
theorem con_zero {c:CN} {wt:Bool} (h:fitC c wt=true) (hw:wt=false):c=CN.zero:=by
 subst hw;have h:zeroB c=true:=h;cases c with
 | mk k n r ks =>
  unfold zeroB at h;simp only [CN.kind,CN.name,CN.role,CN.kids,Bool.and_eq_true] at h;obtain ⟨h1,h2,h3,h4⟩:=h;have h1:=of_decide_eq_true h1;have h2:=of_decide_eq_true h2;have h3:=of_decide_eq_true h3;have h4:=of_decide_eq_true h4;rw [h1,List.eq_nil_of_length_eq_zero h2,List.eq_nil_of_length_eq_zero h3,List.eq_nil_of_length_eq_zero h4];rfl
theorem word_zero {l:List Int} {wt:Bool} (h:fitL l wt=true) (hw:wt=false):l=[]:=by
 subst hw;exact List.eq_nil_of_length_eq_zero (of_decide_eq_true h)
theorem set_all {x:AX} (h:axOk x=true):(fieldsN x.kind).foldl (setF x) (AX.kd x.kind)=x:=by
 obtain ⟨⟨k0,k1⟩,hc,hd,hr,hs,ha,hb⟩:=axOk_facts h;have hk:x.kind=0∨x.kind=1∨x.kind=2∨x.kind=3∨x.kind=4∨x.kind=5:=by omega
 cases x with
 | mk k c d r s a b =>
  dsimp only at hk hc hd hr hs ha hb ⊢;rcases hk with e | e | e | e | e | e <;> subst e
  · rw [word_zero hr rfl,word_zero hs rfl,word_zero ha rfl,word_zero hb rfl];rfl
  · rw [word_zero hr rfl,word_zero hs rfl,word_zero ha rfl,word_zero hb rfl];rfl
  · rw [word_zero hr rfl,word_zero hs rfl,word_zero ha rfl,word_zero hb rfl];rfl
  · rw [con_zero hc rfl,con_zero hd rfl,word_zero ha rfl,word_zero hb rfl];rfl
  · rw [con_zero hd rfl,word_zero hr rfl,word_zero hs rfl,word_zero hb rfl];rfl
  rw [con_zero hc rfl,con_zero hd rfl,word_zero hs rfl];rfl
theorem axR_flat {x:AX} {ts:List Tok} {en:Int} {i:Nat} (h:axOk x=true) (hS:StandAt ts i (flatX x)):axR ts en i=.ok x (i+(flatX x).length):=by
 have hk:=(axOk_facts h).1;unfold flatX at hS ⊢;obtain ⟨h1,h2⟩:=hS.head;have E:=hS.tail;obtain ⟨h3,_⟩:=E.head;have D:=E.tail;have H:kindXI ts i=x.kind:=by unfold kindXI;rw [h2];exact kindX_word hk
 have h4:=fieldsR_flat (en:=en) (fieldsN x.kind) (AX.kd x.kind) (i+1+1) (flds_ok h) D.left;have h5:=D.right.head.1;rw [axR,if_neg (by rw [h1];simp),H,if_neg (by omega),if_neg (by rw [h3];simp),show i+2=i+1+1 from rfl,h4,closeX,if_pos h5,set_all h];simp;omega
theorem flatX_pos (x:AX):1≤(flatX x).length:=by simp [flatX]
theorem axsR_flat {ts:List Tok} {en:Int}:∀ (xs:List AX) (f i:Nat) (z:List AX),(∀ x∈xs,axOk x=true)→StandAt ts i (flatK xs)→i+(flatK xs).length=ts.length→xs.length<f→axsR ts en f i z=.ok (z++xs)
 | [],f,i,z,_,_,he,_=>by simp only [flatK,List.length_nil,Nat.add_zero] at he;rw [axsR_end (by omega)];simp
 | x :: xs,f,i,z,h,hS,he,hf=>by
  rw [flatK] at hS he;rw [List.length_append] at he;have:=flatX_pos x;cases f with
  | zero=>exact absurd hf (Nat.not_lt_zero _)
  | succ f =>
   rw [axsR_step (by omega) (axR_flat (h x (by simp)) hS.left),axsR_flat xs f _ (z++[x]) (fun y hy=>h y (by simp [hy])) hS.right (by omega) (by simp only [List.length_cons] at hf;omega)];simp
theorem flatK_len (xs:List AX):xs.length≤(flatK xs).length:=by
 induction xs with
 | nil=>simp
 | cons x xs ih=>have:=flatX_pos x;rw [flatK,List.length_append,List.length_cons];omega
theorem kbRead_text {xs:List AX} (h:kbB xs=true) (hl:(textK xs).length≤1500):kbRead (textK xs)=(xs,-1):=by
 have hx:∀ x∈xs,axOk x=true:=by
  unfold kbB at h;simp only [Bool.and_eq_true,List.all_eq_true] at h;exact h.2.1
 obtain ⟨h1,h2⟩:=toks_textK hx hl;obtain ⟨h3,h4⟩:=stand_of_map h2;obtain ⟨ts,p,A⟩:∃ ts p,toks (textK xs)=(ts,p):=⟨_,_,rfl⟩;rw [A] at h1 h3 h4;dsimp only at h1 h3 h4;subst h1;have h6:=flatK_len xs;have h5:=axsR_flat (en:=((textK xs).length:Nat)) xs (ts.length+1) 0 [] hx h3 (by omega) (by omega);exact kbRead_ok (wholeK_ok A rfl h5) h
theorem axR_badP {ts:List Tok} {en:Int} {P:Int→Prop} (hp:∀ q,P (hereI ts en q)) {i:Nat} {a:Int} (h:axR ts en i=.bad a):P a:=by
 have hf:∀ (fs:List Nat) (y:AX) (i:Nat) (a:Int),fieldsR ts en fs y i=.bad a→P a:=by
  intro fs
  induction fs with
  | nil=>intro y i a h;simp [fieldsR] at h
  | cons f fs ih =>
   intro y i a h;simp only [fieldsR] at h;cases h1:fieldR ts en f y i with
   | bad p =>
    rw [h1] at h;simp only [ResX.bad.injEq] at h;subst h;unfold fieldR at h1
    split at h1
    · cases h2:conR ts en 6 i with
      | bad q=>rw [h2] at h1;simp only [ResX.bad.injEq] at h1;rw [← h1];exact conR_badP hp h2
      | ok c j=>rw [h2] at h1;simp at h1
    split at h1
    · cases h2:conR ts en 6 i with
      | bad q=>rw [h2] at h1;simp only [ResX.bad.injEq] at h1;rw [← h1];exact conR_badP hp h2
      | ok c j=>rw [h2] at h1;simp at h1
    split at h1
    · simp at h1
    simp only [ResX.bad.injEq] at h1;rw [← h1];exact hp _
   | ok y' j=>rw [h1] at h;exact ih _ _ _ h
 unfold axR at h
 split at h
 · simp only [ResX.bad.injEq] at h;rw [← h];exact hp _
 split at h
 · simp only [ResX.bad.injEq] at h;rw [← h];exact hp _
 split at h
 · simp only [ResX.bad.injEq] at h;rw [← h];exact hp _
 cases h5:fieldsR ts en (fieldsN (kindXI ts i)) (AX.kd (kindXI ts i)) (i+2) with
 | bad p=>rw [h5] at h;simp only [closeX,ResX.bad.injEq] at h;rw [← h];exact hf _ _ _ _ h5
 | ok y j =>
  rw [h5] at h;simp only [closeX] at h
  split at h
  · simp at h
  simp only [ResX.bad.injEq] at h;rw [← h];exact hp _
theorem axsR_badP {ts:List Tok} {en:Int} {P:Int→Prop} (hp:∀ q,P (hereI ts en q)):∀ {f i:Nat} {z:List AX} {a:Int},axsR ts en f i z=.bad a→P a:=by
 intro f
 induction f with
 | zero=>intro i z a h;simp [axsR] at h
 | succ f ih =>
  intro i z a h;rw [axsR] at h
  split at h
  · cases h1:axR ts en i with
    | bad p=>rw [h1] at h;simp only [ResK.bad.injEq] at h;rw [← h];exact axR_badP hp h1
    | ok x j=>rw [h1] at h;exact ih h
  simp at h
theorem kbRead_fits (zs:List Int):((kbRead zs).2=-1∧kbB (kbRead zs).1=true)∨(0≤(kbRead zs).2∧(kbRead zs).2≤zs.length∧(kbRead zs).1=[]):=by
 obtain ⟨I,G⟩:=toks_in zs
 have F:((wholeK zs).2=-1)∨(0≤(wholeK zs).2∧(wholeK zs).2≤zs.length∧(wholeK zs).1=[]):=by
  unfold wholeK
  split
  · rename_i h
    rcases G with e | e
    · exact absurd e h
    exact .inr ⟨e.1,e.2,rfl⟩
  cases h:axsR (toks zs).1 (zs.length:Nat) ((toks zs).1.length+1) 0 [] with
  | bad a =>
   have:=axsR_badP (P:=fun a=>0≤a∧a≤zs.length) I h;exact .inr ⟨this.1,this.2,rfl⟩
  | ok xs=>exact .inl rfl
 unfold kbRead
 split
 · exact .inr ⟨Int.natCast_nonneg _,Int.le_refl _,rfl⟩
 rename_i h
 rcases F with e | e
 · refine .inl ⟨e,?_⟩;cases ho:kbB (wholeK zs).1
   · exact absurd ⟨e,ho⟩ h
   rfl
 exact .inr e
end

end Go.Proofs.YtocpeiaolofodaaGreat
