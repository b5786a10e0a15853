/- Several texts in one: ReadS1, ReadS2, ReadS3, ReadS4, ReadS5, ReadS6, ReadS7. -/
import Derived.Test.YtnmljalcndfjmaaGreatNG16
import Derived.Test.YtnmljalcndfjmaaGreatNG4
import Derived.Deep.QuietTactic
import Derived.BigQuiet
import Derived.Test.YtnmljalcndfjmaaGreatNG7
import Derived.Test.YtnmljalcndfjmaaGreatNG18
import Derived.Deep.RegionHeld
import Derived.Deep.RegionLaw
import Derived.Deep.AppendLies
namespace Go.Proofs.YtnmljalcndfjmaaGreat

section
open Go.RowKit
def BoxQ (W:World) (b:Nat) (lv:Value) (i en bad:Int):Prop:=W.heap[b]?=some (.cells #[lv,.int .i64 i,.int .i64 en,.int .i64 bad] 166 (0,0))
theorem BoxQ.cells {W:World} {b:Nat} {lv:Value} {i en bad:Int} (h:BoxQ W b lv i en bad):W.cell? ⟨b,0,none⟩=some lv∧W.cell? ⟨b,1,none⟩=some (.int .i64 i)∧W.cell? ⟨b,2,none⟩=some (.int .i64 en)∧W.cell? ⟨b,3,none⟩=some (.int .i64 bad):=by
 unfold BoxQ at h;refine ⟨?_,?_,?_,?_⟩ <;> simp [World.cell?,h]
theorem BoxQ.frz {W:World} {b:Nat} {lv:Value} {i en bad:Int} (h:BoxQ W b lv i en bad) (o:Nat):W.frozen? ⟨b,o,none⟩=false:=by
 unfold BoxQ at h;simp [World.frozen?,h]
theorem BoxQ.lt {W:World} {b:Nat} {lv:Value} {i en bad:Int} (h:BoxQ W b lv i en bad):b<W.heap.size:=(Array.getElem?_eq_some_iff.1 h).1
theorem BoxQ.of {W W':World} {b:Nat} {lv:Value} {i en bad:Int} (h:BoxQ W b lv i en bad) (e:W'.heap[b]?=W.heap[b]?):BoxQ W' b lv i en bad:=e.trans h
theorem BoxQ.set1 {W:World} {b:Nat} {lv:Value} {i en bad:Int} (h:BoxQ W b lv i en bad) (j:Int):BoxQ (W.setCell ⟨b,1,none⟩ (.int .i64 j)) b lv j en bad:=by
 unfold BoxQ;rw [heap_setCell_same W b 1 _ _ _ h];rfl
theorem BoxQ.set3 {W:World} {b:Nat} {lv:Value} {i en bad:Int} (h:BoxQ W b lv i en bad) (j:Int):BoxQ (W.setCell ⟨b,3,none⟩ (.int .i64 j)) b lv i en j:=by
 unfold BoxQ;rw [heap_setCell_same W b 3 _ _ _ h];rfl
theorem BoxQ.new (W:World) (lv:Value) (i en bad:Int):BoxQ (W.alloc (.cells #[lv,.int .i64 i,.int .i64 en,.int .i64 bad] 166)) W.heap.size lv i en bad:=by
 show (W.heap.push _)[W.heap.size]?=_
 simp
def PsAt (W:World) (pb g i:Nat) (ts:List Tok) (en bad:Int):Prop:=∃ a c,BoxQ W pb (.slice a ts.length c) i en bad∧(ts.length=0∨a=some ⟨g,0,none⟩)∧ts.length≤c∧c≤9223372036854775807
def PsBad (W:World) (pb:Nat) (p:Int):Prop:=∃ lv i en,BoxQ W pb lv i en p
theorem PsAt.of {W W':World} {pb g i:Nat} {ts:List Tok} {en bad:Int} (h:PsAt W pb g i ts en bad) (e:W'.heap[pb]?=W.heap[pb]?):PsAt W' pb g i ts en bad:=by
 obtain ⟨a,c,h1,h2⟩:=h;exact ⟨a,c,h1.of e,h2⟩
theorem PsAt.lt {W:World} {pb g i:Nat} {ts:List Tok} {en bad:Int} (h:PsAt W pb g i ts en bad):pb<W.heap.size:=by
 obtain ⟨a,c,h1,h2⟩:=h;exact h1.lt
theorem PsAt.below {W W':World} {pb g i:Nat} {ts:List Tok} {en bad:Int} (h:PsAt W pb g i ts en bad) (hb:Below W.heap.size W W'):PsAt W' pb g i ts en bad:=h.of (hb.block _ h.lt)
theorem PsBad.of {W W':World} {pb:Nat} {p:Int} (h:PsBad W pb p) (e:W'.heap[pb]?=W.heap[pb]?):PsBad W' pb p:=by
 obtain ⟨lv,i,en,h⟩:=h;exact ⟨lv,i,en,h.of e⟩
theorem PsBad.lt {W:World} {pb:Nat} {p:Int} (h:PsBad W pb p):pb<W.heap.size:=by
 obtain ⟨lv,i,en,h⟩:=h;exact h.lt
theorem PsBad.below {W W':World} {pb:Nat} {p:Int} (h:PsBad W pb p) (hb:Below W.heap.size W W'):PsBad W' pb p:=h.of (hb.block _ h.lt)
theorem bt_drewN {pb B:Nat} {w w':World} (h:Bt pb B w w') (n:Nat):Bt pb B w (w'.drewN n):=⟨h.os,h.tape,h.output,h.size,h.block⟩
set_option maxRecDepth 100000 in
set_option maxHeartbeats 800000 in
theorem takeS_ok (base pb g i:Nat) (ts:List Tok) (gs:List (Nat × Nat)) (en k:Int) (w:World) (hP:PsAt w pb g i ts en (-1)) (hT:TkM base pb w g ts gs) (X:ts.length≤1500) (hk:isI ts k i=true) :
    Calls Tryz.prog 156 #[.pointer (some ⟨pb,0,none⟩),.int .i64 k] w fun e w'=>e=.returned (txv (ts.getD i Tok.zero) (gs.getD i (0,0)))∧PsAt w' pb g (i+1) ts en (-1)∧Bt pb w.heap.size w w':=by
 obtain ⟨a,c,hB,ha,O,a0⟩:=hP;have y:=isI_lt hk;obtain ⟨c0,c1,c2⟩:=hT.cell i y;rw [isI_kind hk] at c0
 obtain ⟨ta,tn,tc,G⟩:∃ ta tn tc,txv (ts.getD i Tok.zero) (gs.getD i (0,0))=.slice ta tn tc:=by
  obtain ⟨a,c,h⟩:=txv_form (ts.getD i Tok.zero) (gs.getD i (0,0));exact ⟨_,_,_,h⟩
 rw [G] at c2 ⊢;have J:g≠pb:=by rcases hT.glt with h | h <;> omega
 rcases ha with ha | rfl
 · omega
 have HB:Hid (BoxQ w pb (.slice (some ⟨g,0,none⟩) ts.length c) i en (-1)):=hB;obtain ⟨b0,b1,b2,b3⟩:=hB.cells;have bf:=hB.frz 1;have a5:(k != k)=false:=by simp
 obtain ⟨n,hn⟩:∃ n,n=ts.length:=⟨_,rfl⟩;have HN:Hid (n=ts.length):=hn;rw [← hn] at b0 O y X;have a4:(i:Int)<(n:Int):=by omega
 have a6:¬ (n:Int)≤(i:Int):=by omega
 have E:IntKind.i64.wrap ((i:Int)+1)=(i:Int)+1:=wrap64_id (by omega);have a2:IntKind.i64.wrap ((i:Int)+1 - 1)=(i:Int):=by rw [show (i:Int)+1 - 1=i by omega];exact wrap64_id (by omega)
 clear hB hT hk hn G c1;go_enter Tryz.func156, Tryz.ntmps156;go_wp2;go_quiet (fail);go_wp2_with fail;obtain ⟨W2,D⟩:∃ W,Hid (W=(w.drewN nq).setCell ⟨pb,1,none⟩ (.int .i64 ((i:Int)+1))):=⟨_,rfl⟩;rw [← D.out];have U:Hid (BoxQ W2 pb (.slice (some ⟨g,0,none⟩) ts.length c) ((i:Int)+1) en (-1)):=by unfold Hid;rw [D.out];exact BoxQ.set1 (BoxQ.of HB.out rfl) _
 have a1:Hid (Bt pb w.heap.size w W2):=by unfold Hid;rw [D.out];exact Bt.set (p:=⟨pb,1,none⟩) (bt_drewN (Bt.refl _ _ _) _) (.inr rfl) _
 have e2:W2.cell? ⟨g,i*3+2,none⟩=some (.slice ta tn tc):=by
  rw [D.out,World.cell?_of_block (w:=w) (Below.heap_setCell (w.drewN nq) ⟨pb,1,none⟩ _ g J)];exact c2
 clear b0 b1 b2 b3 bf c0 c2 J;obtain ⟨b0,b1,b2,b3⟩:=U.out.cells;rw [← HN.out] at b0;go_quiet (fail);go_wp2;go_ret;refine ⟨rfl,⟨_,c,?_,.inr rfl,by rw [← HN.out];exact O,a0⟩,bt_drewN a1.out _⟩;have h:=U.out;rw [show (i:Int)+1=((i+1:Nat):Int) by omega] at h;exact BoxQ.of h rfl
theorem kindS_no (l:List UInt8) (h:∀ k:Nat,k≤7→((wordB k).toList == l)=false):kindW l=2:=by
 have h0:=h 0 (by omega);have h1:=h 1 (by omega);have h3:=h 3 (by omega);have h4:=h 4 (by omega);have h5:=h 5 (by omega);have h6:=h 6 (by omega);have h7:=h 7 (by omega);simp [wordB,ByteArray.toList_eq] at h0 h1 h3 h4 h5 h6 h7;unfold kindW;rw [if_neg (fun e=>h0 e.symm),if_neg (fun e=>h1 e.symm),if_neg (fun e=>h3 e.symm),if_neg (fun e=>h4 e.symm),if_neg (fun e=>h5 e.symm),if_neg (fun e=>h6 e.symm),if_neg (fun e=>h7 e.symm)]
theorem kindS_at (l:List UInt8) (k:Nat) (hk:k≤7) (h:((wordB k).toList == l)=true):kindW l=k:=by
 have hl:l=(wordB k).toList:=(eq_of_beq h).symm;subst hl;rw [ByteArray.toList_eq]
 match k,hk with
 | 0,_ | 1,_ | 2,_ | 3,_ | 4,_ | 5,_ | 6,_ | 7,_=>rfl
set_option maxRecDepth 100000 in
set_option maxHeartbeats 1000000 in
theorem l2kind_any (a:Option Addr) (n A:Nat) (zs:List Int) (w:World) {lo hi:Nat} (h:Rd lo hi w a n A zs) (Z:hi≤w.heap.size) (hn:1≤n) :
    Calls Tryz.prog 157 #[.slice a n A] w fun e w'=>e=.returned (.int .i64 (kindW (strOfNums zs).toList))∧Below w.heap.size w w':=by
 have H:Hid (Rd lo hi w a n A zs):=h;clear h;obtain ⟨s,HS⟩:∃ s,Hid (s=strOfNums zs):=⟨_,rfl⟩;rw [← HS.out];have a3:0<n:=hn;clear hn;go_enter Tryz.func157, Tryz.ntmps157;go_wp2_with fail;refine (l2words_any w).mono ?_;rintro e w1 ⟨rfl,N,R⟩;have F:Hid (Below w.heap.size w w1):=R;have HC:Hid (∀ i:Nat,i<8→w1.cell? ⟨w.heap.size,i,none⟩=some (.string (wordB i))):=N;clear N R;go_wp2_with fail;go_loopw [4] (fun i wr=>∃ k nd:Nat,k≤8∧i=.int .i64 k∧wr=w1.drewN nd∧∀ j:Nat,j<k→((wordB j).toList == s.toList)=false) (fun i _=>8 - (intOf i).toNat)
 case atStart=>exact ⟨0,0,Nat.zero_le _,rfl,rfl,fun j hj=>by omega⟩
 case round =>
  obtain ⟨k,nd,hk,rfl,E,I⟩:=hrel;have T:Hid (∀ j:Nat,j<k→((wordB j).toList == s.toList)=false):=I;have q:Hid (wr=w1.drewN nd):=E;clear I E;by_cases y:k≤7
  · have Y:(k:Int)<8:=by omega
    have a7:∀ m,(convert 22 9 (.slice a n A)).run Tryz.prog (wr.drewN m)=.ok (.string s) (wr.drewN m):=by
     intro m;rw [HS.out,q.out];exact conv_any (Rd.same (H.out.below F.out Z) (fun _ _ _=>rfl))
    obtain ⟨t,HT⟩:∃ t,Hid (t=wordB k):=⟨_,rfl⟩;have V:wr.cell? ⟨w.heap.size,k,none⟩=some (.string t):=by rw [q.out,HT.out];exact HC.out k (by omega)
    cases hb:(t.toList == s.toList)
    · have HF:Hid (∀ j:Nat,j<k+1→((wordB j).toList == s.toList)=false):=by
       intro j hj;by_cases e:j=k
       · subst e;rw [← HT.out];exact hb
       exact T.out j (by omega)
      go_wp2_with fail;go_quiet (fail);go_wp2;go_roundw
      case rel=>exact ⟨k+1,nd+nq,by omega,by go_num,by rw [q.out,drew_add],HF.out⟩
      case measure=>simp [intOf];omega
    have HF:Hid (kindW s.toList=k):=kindS_at _ k y (by rw [← HT.out];exact hb);go_wp2_with fail;go_quiet (fail);go_wp2;go_ret;exact ⟨ri HF.out.symm,by rw [q.out];exact below_drewN (below_drewN F.out nd) _⟩
  have HF:Hid (kindW s.toList=2):=kindS_no _ (fun j hj=>T.out j (by omega));have Y:¬ (k:Int)<8:=by omega
  go_wp2;go_ret;exact ⟨ri HF.out.symm,by rw [q.out];exact below_drewN F.out nd⟩
end

section
open Go.RowKit
structure Tks (ts:List Tok) (en:Int):Prop where
 len:ts.length≤1500
 pos:∀ q,0≤hereI ts en q
 wd:∀ q,(isI ts 1 q=true∨isI ts 2 q=true)→1≤(wordI ts q).length
 sh:∀ q,(wordI ts q).length≤6
def SP (ts:List Tok) (gs:List (Nat × Nat)) (en:Int) (g pb i:Nat) (w:World) (d:Nat) (r:Res) (e:Ending) (w':World):Prop :=
 Bt pb w.heap.size w w'∧match r with
  | .bad p=>PsBad w' pb p∧∃ k a1 n1 c1 a2 n2 c2 a3 n3 c3,e=.returned (.agg #[.int .i64 k,.slice a1 n1 c1,.slice a2 n2 c2,.slice a3 n3 c3])
  | .ok c j=>∃ v L,e=.returned v∧OwnR ts gs i j w.heap.size w' d v c L∧PsAt w' pb g j ts en (-1)
theorem SP.good {ts:List Tok} {gs:List (Nat × Nat)} {en:Int} {g pb i:Nat} {w:World} {d:Nat} {r:Res} {c:CN} {j:Nat} {v:Value} {L:List (Addr × IntKind)} {w':World} (hb:Bt pb w.heap.size w w') (hr:r=.ok c j) (hO:OwnR ts gs i j w.heap.size w' d v c L) (hP:PsAt w' pb g j ts en (-1)):SP ts gs en g pb i w d r (.returned v) w':=by
 subst hr;exact ⟨hb,v,L,rfl,hO,hP⟩
theorem set4_mem {W:World} {vb:Nat} {v0 v1 v2 v3:Value} (hv:BoxC W vb v0 v1 v2 v3) (x0 x1 x2 x3:Value) {pb B:Nat} {w:World} (hb:Bt pb B w W) (hB:B≤vb) :
    BoxC ((((W.setCell ⟨vb,0,none⟩ x0).setCell ⟨vb,1,none⟩ x1).setCell ⟨vb,2,none⟩ x2).setCell ⟨vb,3,none⟩ x3) vb x0 x1 x2 x3∧Bt pb B w ((((W.setCell ⟨vb,0,none⟩ x0).setCell ⟨vb,1,none⟩ x1).setCell ⟨vb,2,none⟩ x2).setCell ⟨vb,3,none⟩ x3) :=
 ⟨hv.set4 x0 x1 x2 x3,(((hb.set (.inl hB) _).set (.inl hB) _).set (.inl hB) _).set (.inl hB) _⟩
theorem BoxC.set1 {W:World} {b:Nat} {v0 v1 v2 v3:Value} (h:BoxC W b v0 v1 v2 v3) (v:Value):BoxC (W.setCell ⟨b,1,none⟩ v) b v0 v v2 v3:=by
 unfold BoxC;rw [heap_setCell_same W b 1 _ _ v h];rfl
theorem kidS_rng {k:Int} (h:k=0∨k=1∨k=2∨k=3∨k=4∨k=5∨k=6∨k=7):kidS k=kidN k:=by
 rcases h with rfl | rfl | rfl | rfl | rfl | rfl | rfl | rfl <;> decide
theorem kindS_range (ts:List Tok) (i:Nat):kindI ts i=0∨kindI ts i=1∨kindI ts i=2∨kindI ts i=3∨kindI ts i=4∨kindI ts i=5∨kindI ts i=6∨kindI ts i=7:=kindW_range _
theorem OwnR.nameS {base:Nat} {ts:List Tok} {gs:List (Nat × Nat)} {i j s:Nat} {w:World} {d:Nat} {v:Value} {zs:List Int} (hO:OwnB base w v zs) (aR:∀ i,0≤zs.getD i 0∧zs.getD i 0≤255) (hs:s≤base) :
    ∃ L,OwnR ts gs i j s w (d+1) (.agg #[.int .i64 2,v,.slice none 0 0,.slice none 0 0]) (.mk 2 zs [] []) L∧∀ x∈L,base≤x.1.block:=by
 obtain ⟨a,c,b,rfl,hw,hf⟩:=hO.own aR;have nilB:∀ b o,OwB w none 0 0 [] b o:=fun b o=>⟨rfl,⟨by simp,by omega⟩,by simp,.inl rfl⟩
 have e:leafB 0 0 0++leafK 0 0 (fun _=>[]) 0=[]:=rfl
 have hx:∀ x∈leafB b 0 zs.length++(leafB 0 0 0++leafK 0 0 (fun _=>[]) 0),(base≤x.1.block∧x.1.block<w.heap.size)∧w.frozen? x.1=false:=by
  intro x hx;rw [e,List.append_nil] at hx;obtain ⟨q,hq,rfl⟩:=mem_leafB.1 hx;rcases hf with h | ⟨_,h1,h2,h3⟩
  · omega
  exact ⟨⟨h1,h2⟩,h3 _⟩
 refine ⟨_,⟨⟨a,zs.length,c,none,0,0,none,0,0,b,0,0,0,0,0,fun _=>[],rfl,hw,nilB _ _,⟨rfl,⟨by simp,by omega⟩,.inl rfl⟩,rfl⟩,?_,fun x h=>(hx x h).2,fun x h=>.inl ⟨Nat.le_trans hs (hx x h).1.1,(hx x h).1.2⟩⟩,fun x h=>(hx x h).1.1⟩;rw [e,List.append_nil];exact leafB_nodup _ _ _
theorem OwnR.toS {ts:List Tok} {gs:List (Nat × Nat)} {i j s:Nat} {w w':World} {d:Nat} {v:Value} {c:CN} {L:List (Addr × IntKind)} (h:OwnR ts gs i j s w d v c L) (hk:∀ x∈L,w'.heap[x.1.block]?=w.heap[x.1.block]?) (hs:w.heap.size≤w'.heap.size):OwnR ts gs i j s w' d v c L :=
 ⟨h.ow.keep hk,h.nd,fun x hx=>(World.frozen?_of_block (w:=w) (hk x hx)).trans (h.fr x hx),h.us.mono (Nat.le_refl _) (Nat.le_refl _) (Nat.le_refl _) hs⟩
set_option maxRecDepth 100000 in
set_option maxHeartbeats 2000000 in
theorem con_name (f:Nat) (dp:Int) (be:1≤dp) (bd:dp≤6) (base pb g i:Nat) (ts:List Tok) (gs:List (Nat × Nat)) (en:Int) (w:World) (hK:Tks ts en) (hP:PsAt w pb g i ts en (-1)) (hT:TkM base pb w g ts gs) (h1:isI ts 1 i=true) (h2:kindI ts i=2) (h3:keptB (strOfNums (wordI ts i)).toList=false) :
    Calls Tryz.prog 134 #[.pointer (some ⟨pb,0,none⟩),.int .i64 dp] w (SP ts gs en g pb i w (f+1) (conR ts en (f+1) i)):=by
 have HC:Hid (conR ts en (f+1) i=.ok (.mk 2 (wordI ts i) [] []) (i+1)):=by unfold Hid;rw [conR,if_neg (by simp [h1]),if_pos h2,if_neg (by simp [h3])]
 have H2:Hid (kindI ts i=2):=h2;have H3:Hid (keptB (strOfNums (wordI ts i)).toList=false):=h3;clear h2 h3;have aO:=hP.lt;have a5:Below w.heap.size w (w.alloc (.cells #[.int .i64 0,.slice none 0 0,.slice none 0 0,.slice none 0 0] 30)):=(Below.refl _ _).alloc (Nat.le_refl _) _;have aC:Hid (Below w.heap.size w (w.alloc (.cells #[.int .i64 0,.slice none 0 0,.slice none 0 0,.slice none 0 0] 30))):=a5;have b4:Hid (PsAt (w.alloc (.cells #[.int .i64 0,.slice none 0 0,.slice none 0 0,.slice none 0 0] 30)) pb g i ts en (-1)):=hP.below a5;have ae:Hid (TkM base pb (w.alloc (.cells #[.int .i64 0,.slice none 0 0,.slice none 0 0,.slice none 0 0] 30)) g ts gs):=hT.below (a5.mono (Nat.le_of_lt aO));have av:Hid (BoxC (w.alloc (.cells #[.int .i64 0,.slice none 0 0,.slice none 0 0,.slice none 0 0] 30)) w.heap.size (.int .i64 0) (.slice none 0 0) (.slice none 0 0) (.slice none 0 0)):=BoxC.new w _ _ _ _;have HK:Hid (Tks ts en):=hK;clear a5 hP hT hK;have an:=isI_lt h1;have Z:1≤(wordI ts i).length:=HK.out.wd i (.inl h1);have aK:(wordI ts i).length≤6:=HK.out.sh i;obtain ⟨ba,tc,hx,_,_,_⟩:=ae.out.word an;obtain ⟨tg,am⟩:∃ tg,tg=(gs.getD i (0,0)).1:=⟨_,rfl⟩;have O:(ts.getD i Tok.zero).text≠[]:=fun e=>by rw [show wordI ts i=[] from e] at Z;simp at Z
 have a9:=txv_cons (t:=ts.getD i Tok.zero) (gs.getD i (0,0)) O;rw [hx] at a9;simp only [Value.slice.injEq] at a9;obtain ⟨al,aJ,aI⟩:=a9;clear aJ aI;obtain ⟨tn,ab⟩:∃ tn,tn=(wordI ts i).length:=⟨_,rfl⟩;rw [al,← am] at hx;have HX:Hid (txv (ts.getD i Tok.zero) (gs.getD i (0,0))=.slice (some ⟨tg,0,none⟩) (wordI ts i).length tc):=hx;have ad:Hid (tn=(wordI ts i).length):=ab;rw [← ab] at Z aK;obtain ⟨kd,ao⟩:∃ kd,kd=kindI ts i:=⟨_,rfl⟩;have aB:Hid (kd=kindI ts i):=ao;clear hx ab ao al O am;go_enter Tryz.func134, Tryz.ntmps134;go_wp2_with fail;refine (takeS_ok base pb g i ts gs en 1 _ b4.out ae.out HK.out.len h1).mono ?_;rintro e w1 ⟨rfl,ar,a4⟩;rw [HX.out,← ad.out];have b3:Hid (PsAt w1 pb g (i+1) ts en (-1)):=ar;have ax:Hid (TkM base pb w1 g ts gs):=ae.out.bt a4 (by simp;omega);have au:Hid (BoxC w1 w.heap.size (.int .i64 0) (.slice none 0 0) (.slice none 0 0) (.slice none 0 0)):=(a4.block _ av.out.lt (by omega)).trans av.out;have ak:Hid (Bt pb w.heap.size w w1):=(Bt.of_below aC.out).trans (a4.mono aC.out.size);have aN:w.heap.size<w1.heap.size:=au.out.lt
 have F:Hid (Rd 0 pb w1 (some ⟨tg,0,none⟩) tn tc (wordI ts i)):=by
  obtain ⟨a',c',aa,_,hr,_⟩:=ax.out.word an;rw [HX.out] at aa;simp only [Value.slice.injEq,true_and] at aa;obtain ⟨rfl,rfl⟩:=aa;unfold Hid;rw [ad.out];exact hr
 obtain ⟨qa,qc,hq,_,_,_⟩:=ar;obtain ⟨q0,q1,q2,q3⟩:=hq.cells;clear a4 hq;go_wp2_with fail;refine (l2kind_any (some ⟨tg,0,none⟩) tn tc (wordI ts i) w1 F.out (by omega) Z).mono ?_;rintro e w2 ⟨rfl,a0⟩;rw [show kindW (strOfNums (wordI ts i)).toList=kd from aB.out.symm];obtain ⟨W3,ac⟩:∃ W3,Hid (W3=w2.alloc (.cells #[.int .i64 kd,.slice none 0 0,.slice none 0 0,.slice none 0 0] 30)):=⟨_,rfl⟩;have R:Below w2.heap.size w2 W3:=by rw [ac.out];exact (Below.refl _ _).alloc (Nat.le_refl _) _
 have H:Below w1.heap.size w1 W3:=a0.trans (R.mono a0.size);have a7:Hid (BoxC W3 w2.heap.size (.int .i64 kd) (.slice none 0 0) (.slice none 0 0) (.slice none 0 0)):=by unfold Hid;rw [ac.out];exact BoxC.new w2 _ _ _ _
 have bc:w1.heap.size≤w2.heap.size:=a0.size;have aM:w2.heap.size<W3.heap.size:=a7.out.lt;have b2:Hid (PsAt W3 pb g (i+1) ts en (-1)):=b3.out.below H;have aZ:Hid (TkM base pb W3 g ts gs):=ax.out.below (H.mono (by omega));have aX:Hid (BoxC W3 w.heap.size (.int .i64 0) (.slice none 0 0) (.slice none 0 0) (.slice none 0 0)):=au.out.below H aN;have aj:Hid (Bt pb w.heap.size w W3):=ak.out.trans (Bt.of_below (H.mono (by omega)));have V:Hid (Rd 0 pb W3 (some ⟨tg,0,none⟩) tn tc (wordI ts i)):=F.out.below H (by omega);clear a0 H R q0 q1 q2 q3 F;go_upto_region 7 with fail
 try dsimp only
 rw [← ac.out];obtain ⟨o0,o1,o2,o3⟩:=a7.out.cells;rw [show kd=2 from aB.out.trans H2.out] at o0 a7;go_wp2_with fail;refine (specKept_any (some ⟨tg,0,none⟩) tn tc (wordI ts i) W3 V.out (by omega)).mono ?_;rintro e w4 ⟨rfl,y⟩;rw [H3.out];have ay:Hid (PsAt w4 pb g (i+1) ts en (-1)):=b2.out.below y;have bf:Hid (TkM base pb w4 g ts gs):=aZ.out.below (y.mono (by omega));have X:Hid (BoxC w4 w2.heap.size (.int .i64 2) (.slice none 0 0) (.slice none 0 0) (.slice none 0 0)):=a7.out.below y aM;have T:Hid (BoxC w4 w.heap.size (.int .i64 0) (.slice none 0 0) (.slice none 0 0) (.slice none 0 0)):=aX.out.below y (by omega);have E:Hid (Bt pb w.heap.size w w4):=aj.out.trans (Bt.of_below (y.mono (by omega)));have D:Hid (Rd 0 pb w4 (some ⟨tg,0,none⟩) tn tc (wordI ts i)):=V.out.below y (by omega);have aL:W3.heap.size≤w4.heap.size:=y.size;clear y o0 o1 o2 o3;obtain ⟨W4,aY⟩:∃ W,Hid (W=w4):=⟨_,rfl⟩;rw [← aY.out] at X T E D ay aL ⊢;have ag:=X;have a6:=T;have G:=E;have U:=D;have aP:pb≤W4.heap.size:=by have:=a6.out.lt;omega
 obtain ⟨i0,aQ,aH,aG,aF⟩:=info_parts Tryz.info5;have az:Hid (OwnB W4.heap.size (W4.alloc (.cells #[] 5)) (.slice (some ⟨W4.heap.size,0,none⟩) 0 0) []):=ownB_made W4 (Nat.le_refl _);have aA:Hid ((wordI ts i).length=tn):=ad.out.symm;have Y:Hid (∀ j u,((wordI ts i).map (Value.int .u8))[j]?=some u→(W4.alloc (.cells #[] 5)).cell? ((⟨tg,0,none⟩:Addr).add j)=some u):=rd_news (U.out.below ((Below.refl W4.heap.size W4).alloc (Nat.le_refl _) _) aP);go_upto_region 12 with (at_builtin;refine wpList_append_own _ rfl (.tmp 38) (.tmp 39) 22 rfl W4.heap.size 5 i0 (.int .u8 0) 1 1 Tryz.underlying22 aQ aH aG aF rfl (by decide) (.slice (some ⟨W4.heap.size,0,none⟩) 0 0) 0 [] rfl az.out ⟨tg,0,none⟩ tn tc ((wordI ts i).map (Value.int .u8)) rfl (by rw [List.length_map,aA.out,Nat.mul_one]) Y.out (oneCB _) (by unfold maxLen;omega) (by omega) (by simp) ?_;intro v5 w6 N A ah;have HF:Hid (OwnB W4.heap.size w6 v5 ([]++wordI ts i)∧Keep5 W4.heap.size _ w6):=ownB_app az.out (by simp) (by rw [aA.out];exact N) A;clear N A ah;have a8:Hid (Below W4.heap.size W4 w6):=((Below.refl _ _).alloc (Nat.le_refl _) _).trans HF.out.2.1;obtain ⟨xa,xn,xc,rfl⟩:=OwnB.isSlice HF.out.1;have af:Hid (BoxC w6 w2.heap.size (.int .i64 2) (.slice none 0 0) (.slice none 0 0) (.slice none 0 0)):=ag.out.below a8.out ag.out.lt;obtain ⟨_,aE,_,_⟩:=af.out.cells;have aD:=af.out.frz 1);obtain ⟨W7,J⟩:∃ W,Hid (W=w6.setCell ⟨w2.heap.size,1,none⟩ (.slice xa xn xc)):=⟨_,rfl⟩;rw [← J.out];have bb:=a8.out.size;have b5:Hid (BoxC W7 w2.heap.size (.int .i64 2) (.slice xa xn xc) (.slice none 0 0) (.slice none 0 0)):=by unfold Hid;rw [J.out];exact af.out.set1 _
 have ap:∀ q,q<W4.heap.size→q≠w2.heap.size→W7.heap[q]?=W4.heap[q]?:=fun q h1 h2=>by rw [J.out,Below.heap_setCell w6 ⟨w2.heap.size,1,none⟩ _ q h2];exact a8.out.block q h1
 have I:Hid (BoxC W7 w.heap.size (.int .i64 0) (.slice none 0 0) (.slice none 0 0) (.slice none 0 0)):=(ap _ a6.out.lt (by omega)).trans a6.out;have ai:Hid (Bt pb w.heap.size w W7):=by unfold Hid;rw [J.out];exact (G.out.trans (Bt.of_below (a8.out.mono G.out.size))).set (.inl (by show w.heap.size≤w2.heap.size;omega)) _
 clear aE aD;obtain ⟨o0,o1,o2,o3⟩:=b5.out.cells;obtain ⟨z0,z1,z2,z3⟩:=I.out.cells;have b9:=I.out.frz 0;have b8:=I.out.frz 1;have b7:=I.out.frz 2;have b6:=I.out.frz 3;go_wp2;obtain ⟨aS,aW⟩:=set4_mem I.out (.int .i64 2) (.slice xa xn xc) (.slice none 0 0) (.slice none 0 0) ai.out (Nat.le_refl _);obtain ⟨s0,s1,s2,s3⟩:=aS.cells;refine bodyPost_ret (v:=.agg #[.int .i64 2,.slice xa xn xc,.slice none 0 0,.slice none 0 0]) (by simp [results, Tryz.results134,go_sem,s0,s1,s2,s3]) rfl ?_;have aT:OwnB W4.heap.size w6 (.slice xa xn xc) (wordI ts i):=HF.out.1;obtain ⟨L,hL,aq⟩:=OwnR.nameS (ts:=ts) (gs:=gs) (i:=i) (j:=i+1) (s:=w.heap.size) (d:=f) aT U.out.byte G.out.size;have aV:OwnR ts gs i (i+1) w.heap.size W7 (f+1) _ _ L:=hL.toS (fun x hx=>by rw [J.out];exact Below.heap_setCell w6 ⟨w2.heap.size,1,none⟩ _ _ (by have:=aq x hx;have:=ag.out.lt;show _≠w2.heap.size;omega)) (by rw [J.out];simp);have aU:=aV.toS (w':=((((W7.setCell ⟨w.heap.size,0,none⟩ (.int .i64 2)).setCell ⟨w.heap.size,1,none⟩ (.slice xa xn xc)).setCell ⟨w.heap.size,2,none⟩ (.slice none 0 0)).setCell ⟨w.heap.size,3,none⟩ (.slice none 0 0))) (fun x hx=>heap_set4 _ _ _ _ _ (by have:=aq x hx;have:=a6.out.lt;omega)) (by simp);exact SP.good aW HC.out aU ((ay.out.of (ap _ (by omega) (by omega))).of (heap_set4 _ _ _ _ _ (by omega)))
end

section
open Go.RowKit
structure JunkR (pb:Nat) (w:World) (B ob:Nat) (k:Int) (rv:Value) (wr:World) (kv:Value) (m:Nat):Prop where
 row:∃ xs,wr.ownsRow B 30 4 kv m xs
 box:BoxC wr ob (.int .i64 k) (.slice none 0 0) rv kv
 bt:Bt pb w.heap.size w wr
 sz:B≤wr.heap.size
theorem ownsRow_bt {w w':World} {pb base e size n:Nat} {v:Value} {xs:List Value} (h:w.ownsRow base e size v n xs) (hb:Bt pb w.heap.size w w') (hp:pb<base):w'.ownsRow base e size v n xs:=by
 have hl:=h.lt;obtain ⟨h1,h2⟩:=h;refine ⟨h1,?_⟩;rcases h2 with h2 | ⟨g,A,cur,rfl,hg,hh,r⟩
 · exact .inl h2
 exact .inr ⟨g,A,cur,rfl,hg,by rw [hb.block g (hl g rfl).2 (by omega)];exact hh,r⟩
theorem ownsRow_set {w:World} {base e size n o i:Nat} {v x:Value} {xs:List Value} (h:w.ownsRow base e size v n xs) (ho:o<base):(w.setCell ⟨o,i,none⟩ x).ownsRow base e size v n xs:=ownsRow_setCell_below h (a:=⟨o,i,none⟩) ho x
theorem JunkR.keep {pb:Nat} {w:World} {B ob:Nat} {k:Int} {rv:Value} {wr w':World} {kv:Value} {m:Nat} (h:JunkR pb w B ob k rv wr kv m) (hb:Bt pb wr.heap.size wr w') (h1:pb<ob) (h2:ob<B):JunkR pb w B ob k rv w' kv m:=by
 have sz:=h.sz;obtain ⟨xs,hx⟩:=h.row;exact ⟨⟨xs,ownsRow_bt hx hb (by omega)⟩,(hb.block ob (by omega) (by omega)).trans h.box,h.bt.trans (hb.mono h.bt.size),Nat.le_trans sz hb.size⟩
theorem JunkR.app {pb:Nat} {w:World} {B ob:Nat} {k:Int} {rv:Value} {W w6:World} {kv:Value} {m g A:Nat} {xs ys:List Value} (h:JunkR pb w B ob k rv W kv m) (h2:ob<B) (h3:w.heap.size≤ob) (D:W.ownsRow B 30 4 kv m xs)
    (E:w6.ownsRow B 30 4 (.slice (some ⟨g,0,none⟩) (m+1) A) (m+1) ys) (q:W.grownBy w6 kv.ownBlock) :
    BoxC w6 ob (.int .i64 k) (.slice none 0 0) rv kv∧JunkR pb w B ob k rv (w6.setCell ⟨ob,3,none⟩ (.slice (some ⟨g,0,none⟩) (m+1) A)) (.slice (some ⟨g,0,none⟩) (m+1) A) (m+1):=by
 have hl:=D.lt;have sz:=h.sz;have y:BoxC w6 ob (.int .i64 k) (.slice none 0 0) rv kv:=(q.block ob h.box.lt (fun e=>by have:=(hl ob e.symm).1;omega)).trans h.box;refine ⟨y,⟨⟨ys,ownsRow_set E h2⟩,y.set3 _,(h.bt.grown q h.bt.size (fun x hx=>by have:=hl x hx;omega)).set (.inl h3) _,?_⟩⟩;have:=q.size;simp;omega
theorem kidsS_bad {g:Nat→Res} {s m:Nat} {a:Int} (h:kidsR g s m=.bad a):∀ n,m≤n→kidsR g s n=.bad a:=by
 intro n
 induction n with
 | zero=>intro hm;rw [show m=0 by omega] at h;exact h
 | succ n ih =>
  intro hm;by_cases e:m=n+1
  · subst e;exact h
  rw [kidsR,ih (by omega)]
theorem kidsS_step {g:Nat→Res} {s m:Nat} {cs:List CN} {j:Nat} {c:CN} {j':Nat} (h:kidsR g s m=.ok cs j) (k:g j=.ok c j'):kidsR g s (m+1)=.ok (cs++[c]) j':=by
 rw [kidsR,h];simp only;rw [k]
theorem kidsS_fell {g:Nat→Res} {s m:Nat} {cs:List CN} {j:Nat} {a:Int} (h:kidsR g s m=.ok cs j) (k:g j=.bad a):kidsR g s (m+1)=.bad a:=by
 rw [kidsR,h];simp only;rw [k]
theorem kidsS_len {g:Nat→Res} {s:Nat}:∀ {m:Nat} {cs:List CN} {j:Nat},kidsR g s m=.ok cs j→cs.length=m:=by
 intro m
 induction m with
 | zero=>intro cs j h;simp only [kidsR,ResL.ok.injEq] at h;rw [← h.1];rfl
 | succ m ih =>
  intro cs j h;simp only [kidsR] at h;cases h1:kidsR g s m with
  | bad a=>rw [h1] at h;simp at h
  | ok cs1 j1 =>
   rw [h1] at h;simp only at h;cases h2:g j1 with
   | bad a=>rw [h2] at h;simp at h
   | ok c2 j2 =>
    rw [h2] at h;simp only [ResL.ok.injEq] at h;rw [← h.1,List.length_append,ih h1];rfl
theorem conS_kids {ts:List Tok} {en:Int} {f i:Nat} (h1:isI ts 1 i=true) (h2:kindI ts i≠2) (h3:kidN (kindI ts i)≠0) (h4:isI ts 3 (i+1)=true) (h5:roleB (kindI ts i)=false∨isI ts 2 (i+2)=true) :
    conR ts en (f+1) i=closeR ts en (kindI ts i) (roleI ts (kindI ts i) i) (kidsR (conR ts en f) (startI (kindI ts i) i) (kidN (kindI ts i)).toNat):=by
 rw [conR,if_neg (by simp [h1]),if_neg h2,if_neg h3,if_neg (by simp [h4]),if_neg];rintro ⟨a,b⟩;rcases h5 with h | h
 · rw [h] at a;cases a
 rw [h] at b;cases b
theorem kidS_kind {k:Int} (h:k=0∨k=1∨k=2∨k=3∨k=4∨k=5∨k=6∨k=7):0≤kidN k∧kidN k≤2:=by
 rcases h with rfl | rfl | rfl | rfl | rfl | rfl | rfl | rfl <;> decide
theorem roleS_no {k:Int} (h:k=0∨k=1∨k=2∨k=3∨k=4∨k=5∨k=6∨k=7) (hr:roleB k=false):¬ 6≤k:=by
 rcases h with rfl | rfl | rfl | rfl | rfl | rfl | rfl | rfl <;> first | omega | (exfalso;revert hr;decide)
end

section
open Go.RowKit
end

section
open Go.RowKit
theorem BoxC.set2S {W:World} {b:Nat} {v0 v1 v2 v3:Value} (h:BoxC W b v0 v1 v2 v3) (v:Value):BoxC (W.setCell ⟨b,2,none⟩ v) b v0 v1 v v3:=by
 unfold BoxC;rw [heap_setCell_same W b 2 _ _ v h];rfl
end

section
open Go.RowKit
end

section
open Go.RowKit
end

end Go.Proofs.YtnmljalcndfjmaaGreat
