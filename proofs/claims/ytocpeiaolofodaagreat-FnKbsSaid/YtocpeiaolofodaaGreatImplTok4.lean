/- The program's reader of a text's tokens: for every list of bytes it answers what 'toks' says, in memory of its own: the walk. -/
import Derived.Test.YtocpeiaolofodaaGreatNG11
import Derived.Test.YtocpeiaolofodaaGreatNG2
namespace Go.Proofs.YtocpeiaolofodaaGreat
open Go.RowKit Go.Shelf
attribute [local go_sem] Oper.semAt_some
theorem Rd.pieceOf {lo hi:Nat} {w:World} {b off n F:Nat} {zs:List Int} (h:Rd lo hi w (some ⟨b,off,none⟩) n F zs) {i:Nat} (aF:i<n):Rd lo hi w (some ⟨b,off+i,none⟩) (pend zs i - i) (F - i) (piece zs i):=by
 obtain ⟨hl,⟨hn,hm⟩,ag,hc⟩:=h;have hp:=pend_le zs i (by omega);refine ⟨piece_length zs i (by omega),by omega,piece_byte ag i,.inr ?_⟩;rcases hc with h0 | ⟨b,off,e,hb,aA,hc⟩
 · omega
 simp only [Option.some.injEq,Addr.mk.injEq,and_true] at e;obtain ⟨rfl,rfl⟩:=e;refine ⟨_,_,rfl,hb,aA,fun j hj=>?_⟩;rw [piece_getD zs i j (by omega) hj,Nat.add_assoc];exact hc (i+j) (by omega)
theorem kind_range (p:List Int):kindOf p=0∨kindOf p=1∨kindOf p=2∨kindOf p=3∨kindOf p=4:=by
 unfold kindOf
 split
 · simp
 split
 · simp
 split
 · simp
 split <;> simp
def InvI (s:Nat) (w:World) (zs:List Int) (sv:Value) (pre:List (PosOf zs)) (W:World):Prop:=∃ v gs,InvT s w W zs sv v pre gs
def InvX (s:Nat) (w:World) (zs:List Int) (c:Code) (pre:List (PosOf zs)) (W:World):Prop :=
 c=.exit 0∧Below s w W∧∃ pre' x,pre=pre'++[x]∧Good zs pre'∧kindOf (piece zs x.1)=0∧Boxed W s 79 (.slice none 0 0)∧Boxed W (s+1) 3 (.int .i64 (x.1:Nat))
theorem InvI.own {s:Nat} {w:World} {zs:List Int} {sv:Value} {B:Nat} (hB:s≤B):OwnFrom B (InvI s w zs sv):=by
 rintro pre W W' row ⟨v,gs,h⟩ hg hr;have:s≤W.heap.size:=by have:=Boxed.lt h.list;omega
 exact ⟨v,gs,h.noncells this hg fun r e=>⟨by have:=(hr r e).1;omega,(hr r e).2⟩⟩
theorem InvX.own {s:Nat} {w:World} {zs:List Int} {B:Nat} (hB:s≤B) (c:Code):OwnFrom B (InvX s w zs c):=by
 rintro pre W W' row ⟨hc,hb,pre',x,h1,h2,h3,h4,h5⟩ hg hr;have:s≤W.heap.size:=by have:=Boxed.lt h4;omega
 exact ⟨hc,hb.grown hg this fun k e=>by have:=(hr k e).1;omega,pre',x,h1,h2,h3,boxed_noncells h4 hg fun r e=>(hr r e).2,boxed_noncells h5 hg fun r e=>(hr r e).2⟩
theorem word_round {s:Nat} {w W w1:World} {zs:List Int} {sv v:Value} {xs:List (PosOf zs)} {ts:List Tok} {gs:List (Nat × Nat)} {x:PosOf zs} {kd:Int} {g c:Nat}
    (hs:s=w.heap.size) (an:ts=xs.map (fun x=>tokAt zs x.1)) (hI:InvT s w W zs sv v xs gs) (E:Below W.heap.size W.drew w1) (a4:kd=kindOf (piece zs x.1)) (aq:kd=1∨kd=2) (hn:ts.length≤1500)
    (hg:W.heap.size≤g) (hr:Row w1 g c (piece zs x.1)) (hc:c≤9223372036854775807) (ag:∀ i,0≤zs.getD i 0∧zs.getD i 0≤255) :
    ∃ v' w2 g' cap',(Builtin.append_ #[79, 79] 79 #[v,.slice (some ⟨w1.heap.size,0,none⟩) 1 1]).run Tryz.prog (w1.alloc (.cells #[.int .i64 kd,.int .i64 (x.1:Nat),.slice (some ⟨g,0,none⟩) (pend zs x.1 - x.1) c] 115))=.ok v' w2 ∧
     v'=.slice (some ⟨g',0,none⟩) (ts.length+1) cap'∧Boxed w2 s 79 v∧KeepsOthers W (w2.setCell ⟨s,0,none⟩ v')∧KpT s (s+1+1) W (w2.setCell ⟨s,0,none⟩ v')∧InvT s w (w2.setCell ⟨s,0,none⟩ v') zs sv v' (xs++[x]) (gs++[(g,c)]):=by
 obtain ⟨i0,aa,a9,a8,a7⟩:=info_parts Tryz.infoTok3;have ao:Below W.heap.size W w1:=⟨E.os,E.tape,E.output,E.size,E.block⟩;have V:Below W.heap.size W (w1.alloc (.cells #[.int .i64 kd,.int .i64 (x.1:Nat),.slice (some ⟨g,0,none⟩) (pend zs x.1 - x.1) c] 115)):=ao.alloc ao.size _;have au:s≤W.heap.size:=by have:=Boxed.lt hI.list;omega
 have N:=(hI.own.below V).row;rw [← an] at N;have af:kindOf (piece zs x.1)≠0:=by rw [← a4];rcases aq with e | e <;> rw [e] <;> simp
 have ht:(tokAt zs x.1).text=piece zs x.1:=by simp only [tokAt];rw [← a4,if_pos aq]
 have ad:=piece_length zs x.1 x.2.1;have aD:=pend_gt zs x.1;have ax:piece zs x.1≠[]:=fun e=>by rw [e] at ad;simp at ad;omega
 have hG:kd=(tokAt zs x.1).kind∧Value.slice (some ⟨g,0,none⟩) (pend zs x.1 - x.1) c=txv (tokAt zs x.1) (g,c):=⟨a4,by rw [txv_cons _ (by rw [ht];exact ax),ht,ad]⟩;have hM:(tokAt zs x.1).text≠[]→W.heap.size≤(g,c).1∧Row (w1.alloc (.cells #[.int .i64 kd,.int .i64 (x.1:Nat),.slice (some ⟨g,0,none⟩) (pend zs x.1 - x.1) c] 115)) (g,c).1 (g,c).2 (tokAt zs x.1).text∧(g,c).2≤9223372036854775807:=fun _=>⟨hg,by rw [ht];exact hr.allocOf,hc⟩
 obtain ⟨v',w2,A,al,G,_⟩:=run_append_own (P:=Tryz.prog) (w1.alloc (.cells #[.int .i64 kd,.int .i64 (x.1:Nat),.slice (some ⟨g,0,none⟩) (pend zs x.1 - x.1) c] 115)) s 79 79 115 i0 (.agg #[.int .i64 0,.int .i64 0,.slice none 0 0]) 3 40 Tryz.underlying79 aa a9 a8 a7 rfl (by decide) v ts.length (flatT ts gs) N ⟨w1.heap.size,0,none⟩ 1 1 [.int .i64 kd,.int .i64 (x.1:Nat),.slice (some ⟨g,0,none⟩) (pend zs x.1 - x.1) c] rfl (new3 _ _ _ _ _ _ rfl) (one3 _ _ _ _ _) (by unfold maxLen;omega) (by omega) (Nat.le_trans au V.size);obtain ⟨g',cap',U,bL2,X,T,z⟩:=round_tok hs an hI V af hG hM ag al G;exact ⟨v',w2,g',cap',A,U,bL2,X,T,z⟩
set_option maxRecDepth 100000 in
set_option maxHeartbeats 600000 in
theorem implTokens_small (b off n F:Nat) (zs:List Int) (w:World) (h:Rd 0 w.heap.size w (some ⟨b,off,none⟩) n F zs) (hb:b<w.heap.size) (av:n≤1500) :
    Calls Tryz.prog 49 #[.slice (some ⟨b,off,none⟩) n F] w fun e w'=>∃ v gs,e=.returned (.tuple #[v,.int .i64 (toks zs).2])∧OwnT w.heap.size w' v (toks zs).1 gs∧Below w.heap.size w w':=by
 have aE:=h.fits.1;have H:Hid (Rd 0 w.heap.size w (some ⟨b,off,none⟩) n F zs):=h;have HL:Hid (zs.length=n):=h.len;have HT:Hid (toks zs=goToks zs (posFrom zs (n+1) 0) []):=by unfold Hid toks;rw [if_neg (by rw [h.len];omega),h.len,goToks_pos]
 have hd:decide ((1500:Int)<(n:Int))=false:=by simp;omega
 clear h;obtain ⟨i0,aa,a9,a8,a7⟩:=info_parts Tryz.infoTok3;refine (callsIn_wide (n:=6)).1 ?_;refine callsIn_of_wp_marks Tryz.func49 rfl trivial ?_ rfl;simp only [Tryz.ntmps49,List.size_toArray,List.length_cons,List.length_nil,Nat.reduceAdd,Nat.reduceSub,Array.replicate_succ,Array.replicate_zero,List.push_toArray,List.append_toArray,List.nil_append,List.cons_append]
 gi_wp2
 refine wpIn_scope_wide ?_
 gi_wp2
 refine wpIn_label ?_
 gi_wp2_with (refine ⟨trivial,?_⟩;gi_at_call 72;refine (pieces_in _ _ _ _ _).mono ?_;rintro e w' ⟨rfl,rfl⟩)
 have bL:=Boxed.new w 79 (.slice none 0 0);have bB:=Boxed.new (w.alloc (.cells #[.slice none 0 0] 79)) 3 (.int .i64 (-1));have bS:=Boxed.new ((w.alloc (.cells #[.slice none 0 0] 79)).alloc (.cells #[.int .i64 (-1)] 3)) 22 (.slice (some ⟨b,off,none⟩) n F);rw [World.size_alloc] at bB;rw [World.size_alloc,World.size_alloc] at bS;have ap:Below w.heap.size w (((w.alloc (.cells #[.slice none 0 0] 79)).alloc (.cells #[.int .i64 (-1)] 3)).alloc (.cells #[.slice (some ⟨b,off,none⟩) n F] 22)):=(((Below.refl _ w).alloc (Nat.le_refl _) _).alloc (by simp) _).alloc (by simp;omega) _
 refine wpIn_rangeFunc_ownG rfl (by omega) (gf:=98) (lb:=#[.pointer (some ⟨w.heap.size+1+1,0,none⟩)]) rfl trivial (enters_of Tryz.func98 (by kernel_rfl) rfl)
  (pieces_stops 5 (w.heap.size+1+1) w.heap.size b off n F (by omega) zs hb av _ (by simp) (by simp;omega) (Boxed.cell bS) (H.out.below ap (Nat.le_refl _))) KpT.trans
  (fun W l o o' hl hW hc hw=>⟨belowK_b (w:=w) (Nat.le_refl _) W l o o' (by simp at hl;omega) hW hc hw,World.putObj_heap_other (by simp at hl;omega)⟩) (Below.refl _ _) (fun _=>rfl)
  (InvI w.heap.size w zs (.slice (some ⟨b,off,none⟩) n F)) (InvX w.heap.size w zs) (InvI.own (by simp;omega)) (InvX.own (by simp;omega))
  ⟨.slice none 0 0,[],⟨(bL.alloc _).alloc _,bB.alloc _,bS,OwnT.nil _ _,fun _ h=>by simp at h,ap⟩⟩
  (fun x=>{ tmps:=#[.slice (some ⟨b,off,none⟩) n F,undef,.slice none 0 0,.int .i64 0,.pointer (some ⟨w.heap.size,0,none⟩),.pointer (some ⟨w.heap.size+1,0,none⟩),.int .i64 (x.1:Nat),.slice (some ⟨b,off+x.1,none⟩) (pend zs x.1 - x.1) (F - x.1),undef,.slice (some ⟨b,off,none⟩) n F,.int .i64 n,.bool false,.slice (some ⟨b,off,none⟩) n F,.func (.func 98) #[] #[.pointer (some ⟨w.heap.size+1+1,0,none⟩)],.int .i64 (x.1:Nat),.slice (some ⟨b,off+x.1,none⟩) (pend zs x.1 - x.1) (F - x.1),undef,undef,undef,undef,undef,undef,undef,undef,undef,undef,undef,undef,undef,undef,undef,undef,undef,undef,undef,undef,undef,undef,undef,undef,undef,undef],defers:=[] }) ?assign ?body ?done ?stop
 case assign =>
  intro l x W K hK;unfold encP
  gi_wp2
  exact hK
 case body =>
  rintro l pre x W ⟨v,gs,hI⟩ aB;have ar:x.1<n:=by rw [← HL.out];exact x.2.1
  have a0:Hid (Rd 0 w.heap.size W (some ⟨b,off+x.1,none⟩) (pend zs x.1 - x.1) (F - x.1) (piece zs x.1)):=(H.out.below hI.bel (Nat.le_refl _)).pieceOf ar;obtain ⟨kd,I⟩:∃ kd,Hid (kd=kindOf (piece zs x.1)):=⟨_,rfl⟩;have a4:kd=0∨kd=1∨kd=2∨kd=3∨kd=4:=by rw [I.out];exact kind_range _
  have cL:=Boxed.cell hI.list;have fL:=Boxed.frozen hI.list;have cB:=Boxed.cell hI.bad;have fB:=Boxed.frozen hI.bad;have HI:Hid (InvT w.heap.size w W zs (.slice (some ⟨b,off,none⟩) n F) v pre gs):=hI;have ab:w.heap.size≤W.heap.size:=by have:=Boxed.lt hI.list;omega
  obtain ⟨ts,Z⟩:∃ ts,Hid (ts=pre.map (fun x=>tokAt zs x.1)):=⟨_,rfl⟩;have aC:ts.length≤n:=by rw [Z.out,List.length_map];omega
  clear hI;rcases a4 with rfl | rfl | rfl | rfl | rfl
  · gi_wp2_with (refine ⟨trivial,?_⟩;gi_at_call 73;refine (CallsIn.inRound l (callsIn_wide.2 (pieceKind_any _ _ _ (piece zs x.1) _ a0.out))).mono ?_;rintro e w1 ⟨rfl,hw⟩;rw [hw,← I.out];clear hw)
    exact ⟨((KeepsOthers.setCell _ _ _).trans (KeepsOthers.setCell _ _ _)).from _,rfl,(HI.out.bel.setCell (p:=⟨w.heap.size,0,none⟩) (Nat.le_refl _) _).setCell (p:=⟨w.heap.size+1,0,none⟩) (Nat.le_succ _) _,pre,x,rfl,HI.out.good,I.out.symm,boxed_setOther (Boxed.set _ HI.out.list) (by omega) _,Boxed.set _ (boxed_setOther HI.out.bad (by omega) _)⟩
  · have Y:Hid (0<pend zs x.1 - x.1):=by have:=pend_gt zs x.1;unfold Hid;omega
    have a5:Hid (pend zs x.1 - x.1≤1048576):=by have:=pend_le zs x.1 x.2.1;have:=HL.out;unfold Hid;omega
    have ae:Tryz.prog.follows .mixedOrders=true:=by kernel_rfl
    gi_wp2_with (refine ⟨trivial,?_⟩;gi_at_call 73;refine (CallsIn.inRound l (callsIn_wide.2 (pieceKind_any _ _ _ (piece zs x.1) _ a0.out))).mono ?_;rintro e w1 ⟨rfl,hw⟩;rw [hw,← I.out];clear hw)
    refine region_round ae (by kernel_rfl) ?_;refine wpAnyIn_take (i:=1) (v:=.int .i64 1) rfl rfl (by kernel_rfl) (by kernel_rfl) (by kernel_rfl) (fun _ _ _ h=>h) ⟨Or.inl ⟨by rfl,fun w'=>by go_simp⟩,fun _=>rfl⟩ ?_;refine wpAnyIn_take (i:=2) (v:=.int .i64 (x.1:Nat)) rfl rfl (by kernel_rfl) (by kernel_rfl) (by kernel_rfl) (fun _ _ _ h=>h) ⟨Or.inl ⟨by rfl,fun w'=>by go_simp⟩,fun _=>rfl⟩ ?_;refine wpAnyIn_take (i:=3) (v:=.slice (some ⟨b,off+x.1,none⟩) (pend zs x.1 - x.1) (F - x.1)) rfl rfl (by kernel_rfl) (by kernel_rfl) (by kernel_rfl) (fun _ _ _ h=>h) ⟨Or.inl ⟨by rfl,fun w'=>by go_simp⟩,fun _=>rfl⟩ ?_;refine wpAnyIn_ready (rs:=[0,4]) (by kernel_rfl) (by simp) ?_;refine AllReadyIn.cons rfl (fun K hK=>?_) (AllReadyIn.cons rfl (fun K hK=>?_) AllReadyIn.nil)
    · go_simp;refine hK _ _ ?_;clear hK;refine wpAnyIn_ready (rs:=[4]) (by kernel_rfl) (by simp) ?_;refine AllReadyIn.cons rfl (fun K hK=>?_) AllReadyIn.nil;go_simp;refine ⟨trivial,?_⟩;refine (callsIn_wide.2 (clone_any b (off+x.1) (pend zs x.1 - x.1) (F - x.1) (piece zs x.1) W.drew (lo:=0) (hi:=w.heap.size) (a0.out.same (fun _ _ _=>rfl)) ab Y.out a5.out)).mono ?_;rintro e w1 ⟨g,c,rfl,hg,hr,hc,E⟩;obtain ⟨v',w2,g',cap',A,U,bL2,X,T,z⟩:=word_round (kd:=1) rfl Z.out HI.out E I.out (by simp) (by omega) hg hr hc H.out.byte;subst U;have cL1:=(E.cell (p:=⟨w.heap.size,0,none⟩) (Boxed.lt HI.out.list)).trans cL;have a2:w.heap.size<w1.heap.size:=Nat.lt_of_lt_of_le (Boxed.lt HI.out.list) E.size;have cL2:=Boxed.cell bL2;have fL2:=Boxed.frozen bL2;have J:Hid ((Builtin.append_ #[79, 79] 79 #[v,.slice (some ⟨w1.heap.size,0,none⟩) 1 1]).run Tryz.prog (w1.alloc (.cells #[.int .i64 1,.int .i64 (x.1:Nat),.slice (some ⟨g,0,none⟩) (pend zs x.1 - x.1) c] 115))=.ok (.slice (some ⟨g',0,none⟩) (ts.length+1) cap') w2):=A;clear A hr E;refine hK _ _ ?_;clear hK;refine wpAnyIn_ready (rs:=[5]) (by kernel_rfl) (by simp) ?_;refine AllReadyIn.cons rfl (fun K hK=>?_) AllReadyIn.nil;go_simp;refine hK _ _ ?_;clear hK;refine wpAnyIn_ready (rs:=[6]) (by kernel_rfl) (by simp) ?_;refine AllReadyIn.cons rfl (fun K hK=>?_) AllReadyIn.nil;go_simp;refine hK _ _ ?_;clear hK;refine wpAnyIn_ready (rs:=[7]) (by kernel_rfl) (by simp) ?_;refine AllReadyIn.cons rfl (fun K hK=>?_) AllReadyIn.nil
      refine stepIn_append_own rfl rfl (.tmp 32) (.tmp 38) 79 rfl 79 rfl v (.slice (some ⟨w1.heap.size,0,none⟩) 1 1) rfl rfl _ _ J.out ?_;refine hK _ _ ?_;clear hK;refine wpAnyIn_ready (rs:=[8]) (by kernel_rfl) (by simp) ?_;refine AllReadyIn.cons rfl (fun K hK=>?_) AllReadyIn.nil;go_simp;refine hK _ _ ?_;clear hK;refine wpAnyIn_done (by kernel_rfl) ?_ _
      gi_wp2
      exact ⟨X.from _,T,_,_,z⟩
    go_simp;refine ⟨trivial,?_⟩;refine (callsIn_wide.2 (clone_any b (off+x.1) (pend zs x.1 - x.1) (F - x.1) (piece zs x.1) W.drew (lo:=0) (hi:=w.heap.size) (a0.out.same (fun _ _ _=>rfl)) ab Y.out a5.out)).mono ?_;rintro e w1 ⟨g,c,rfl,hg,hr,hc,E⟩;obtain ⟨v',w2,g',cap',A,U,bL2,X,T,z⟩:=word_round (kd:=1) rfl Z.out HI.out E I.out (by simp) (by omega) hg hr hc H.out.byte;subst U;have cL1:=(E.cell (p:=⟨w.heap.size,0,none⟩) (Boxed.lt HI.out.list)).trans cL;have a2:w.heap.size<w1.heap.size:=Nat.lt_of_lt_of_le (Boxed.lt HI.out.list) E.size;have cL2:=Boxed.cell bL2;have fL2:=Boxed.frozen bL2;have J:Hid ((Builtin.append_ #[79, 79] 79 #[v,.slice (some ⟨w1.heap.size,0,none⟩) 1 1]).run Tryz.prog (w1.alloc (.cells #[.int .i64 1,.int .i64 (x.1:Nat),.slice (some ⟨g,0,none⟩) (pend zs x.1 - x.1) c] 115))=.ok (.slice (some ⟨g',0,none⟩) (ts.length+1) cap') w2):=A;clear A hr E;refine hK _ _ ?_;clear hK;refine wpAnyIn_take (i:=5) (v:=.agg #[.int .i64 1,.int .i64 (x.1:Nat),.slice (some ⟨g,0,none⟩) (pend zs x.1 - x.1) c]) rfl rfl (by kernel_rfl) (by kernel_rfl) (by kernel_rfl) (fun _ _ _ h=>h) ⟨Or.inl ⟨by rfl,fun w'=>by go_simp⟩,fun _=>rfl⟩ ?_;refine wpAnyIn_ready (rs:=[0,6]) (by kernel_rfl) (by simp) ?_;refine AllReadyIn.cons rfl (fun K hK=>?_) (AllReadyIn.cons rfl (fun K hK=>?_) AllReadyIn.nil)
    · go_simp;refine hK _ _ ?_;clear hK;refine wpAnyIn_ready (rs:=[6]) (by kernel_rfl) (by simp) ?_;refine AllReadyIn.cons rfl (fun K hK=>?_) AllReadyIn.nil;go_simp;refine hK _ _ ?_;clear hK;refine wpAnyIn_ready (rs:=[7]) (by kernel_rfl) (by simp) ?_;refine AllReadyIn.cons rfl (fun K hK=>?_) AllReadyIn.nil;refine stepIn_append_own rfl rfl (.tmp 32) (.tmp 38) 79 rfl 79 rfl v (.slice (some ⟨w1.heap.size,0,none⟩) 1 1) rfl rfl _ _ J.out ?_;refine hK _ _ ?_;clear hK;refine wpAnyIn_ready (rs:=[8]) (by kernel_rfl) (by simp) ?_;refine AllReadyIn.cons rfl (fun K hK=>?_) AllReadyIn.nil;go_simp;refine hK _ _ ?_;clear hK;refine wpAnyIn_done (by kernel_rfl) ?_ _
      gi_wp2
      exact ⟨X.from _,T,_,_,z⟩
    go_simp;refine hK _ _ ?_;clear hK;refine wpAnyIn_ready (rs:=[0]) (by kernel_rfl) (by simp) ?_;refine AllReadyIn.cons rfl (fun K hK=>?_) AllReadyIn.nil;go_simp;refine hK _ _ ?_;clear hK;refine wpAnyIn_ready (rs:=[7]) (by kernel_rfl) (by simp) ?_;refine AllReadyIn.cons rfl (fun K hK=>?_) AllReadyIn.nil;refine stepIn_append_own rfl rfl (.tmp 32) (.tmp 38) 79 rfl 79 rfl v (.slice (some ⟨w1.heap.size,0,none⟩) 1 1) rfl rfl _ _ J.out ?_;refine hK _ _ ?_;clear hK;refine wpAnyIn_ready (rs:=[8]) (by kernel_rfl) (by simp) ?_;refine AllReadyIn.cons rfl (fun K hK=>?_) AllReadyIn.nil;go_simp;refine hK _ _ ?_;clear hK;refine wpAnyIn_done (by kernel_rfl) ?_ _
    gi_wp2
    exact ⟨X.from _,T,_,_,z⟩
  · have Y:Hid (0<pend zs x.1 - x.1):=by have:=pend_gt zs x.1;unfold Hid;omega
    have a5:Hid (pend zs x.1 - x.1≤1048576):=by have:=pend_le zs x.1 x.2.1;have:=HL.out;unfold Hid;omega
    have ae:Tryz.prog.follows .mixedOrders=true:=by kernel_rfl
    gi_wp2_with (refine ⟨trivial,?_⟩;gi_at_call 73;refine (CallsIn.inRound l (callsIn_wide.2 (pieceKind_any _ _ _ (piece zs x.1) _ a0.out))).mono ?_;rintro e w1 ⟨rfl,hw⟩;rw [hw,← I.out];clear hw)
    refine region_round ae (by kernel_rfl) ?_;refine wpAnyIn_take (i:=1) (v:=.int .i64 2) rfl rfl (by kernel_rfl) (by kernel_rfl) (by kernel_rfl) (fun _ _ _ h=>h) ⟨Or.inl ⟨by rfl,fun w'=>by go_simp⟩,fun _=>rfl⟩ ?_;refine wpAnyIn_take (i:=2) (v:=.int .i64 (x.1:Nat)) rfl rfl (by kernel_rfl) (by kernel_rfl) (by kernel_rfl) (fun _ _ _ h=>h) ⟨Or.inl ⟨by rfl,fun w'=>by go_simp⟩,fun _=>rfl⟩ ?_;refine wpAnyIn_take (i:=3) (v:=.slice (some ⟨b,off+x.1,none⟩) (pend zs x.1 - x.1) (F - x.1)) rfl rfl (by kernel_rfl) (by kernel_rfl) (by kernel_rfl) (fun _ _ _ h=>h) ⟨Or.inl ⟨by rfl,fun w'=>by go_simp⟩,fun _=>rfl⟩ ?_;refine wpAnyIn_ready (rs:=[0,4]) (by kernel_rfl) (by simp) ?_;refine AllReadyIn.cons rfl (fun K hK=>?_) (AllReadyIn.cons rfl (fun K hK=>?_) AllReadyIn.nil)
    · go_simp;refine hK _ _ ?_;clear hK;refine wpAnyIn_ready (rs:=[4]) (by kernel_rfl) (by simp) ?_;refine AllReadyIn.cons rfl (fun K hK=>?_) AllReadyIn.nil;go_simp;refine ⟨trivial,?_⟩;refine (callsIn_wide.2 (clone_any b (off+x.1) (pend zs x.1 - x.1) (F - x.1) (piece zs x.1) W.drew (lo:=0) (hi:=w.heap.size) (a0.out.same (fun _ _ _=>rfl)) ab Y.out a5.out)).mono ?_;rintro e w1 ⟨g,c,rfl,hg,hr,hc,E⟩;obtain ⟨v',w2,g',cap',A,U,bL2,X,T,z⟩:=word_round (kd:=2) rfl Z.out HI.out E I.out (by simp) (by omega) hg hr hc H.out.byte;subst U;have cL1:=(E.cell (p:=⟨w.heap.size,0,none⟩) (Boxed.lt HI.out.list)).trans cL;have a2:w.heap.size<w1.heap.size:=Nat.lt_of_lt_of_le (Boxed.lt HI.out.list) E.size;have cL2:=Boxed.cell bL2;have fL2:=Boxed.frozen bL2;have J:Hid ((Builtin.append_ #[79, 79] 79 #[v,.slice (some ⟨w1.heap.size,0,none⟩) 1 1]).run Tryz.prog (w1.alloc (.cells #[.int .i64 2,.int .i64 (x.1:Nat),.slice (some ⟨g,0,none⟩) (pend zs x.1 - x.1) c] 115))=.ok (.slice (some ⟨g',0,none⟩) (ts.length+1) cap') w2):=A;clear A hr E;refine hK _ _ ?_;clear hK;refine wpAnyIn_ready (rs:=[5]) (by kernel_rfl) (by simp) ?_;refine AllReadyIn.cons rfl (fun K hK=>?_) AllReadyIn.nil;go_simp;refine hK _ _ ?_;clear hK;refine wpAnyIn_ready (rs:=[6]) (by kernel_rfl) (by simp) ?_;refine AllReadyIn.cons rfl (fun K hK=>?_) AllReadyIn.nil;go_simp;refine hK _ _ ?_;clear hK;refine wpAnyIn_ready (rs:=[7]) (by kernel_rfl) (by simp) ?_;refine AllReadyIn.cons rfl (fun K hK=>?_) AllReadyIn.nil
      refine stepIn_append_own rfl rfl (.tmp 32) (.tmp 38) 79 rfl 79 rfl v (.slice (some ⟨w1.heap.size,0,none⟩) 1 1) rfl rfl _ _ J.out ?_;refine hK _ _ ?_;clear hK;refine wpAnyIn_ready (rs:=[8]) (by kernel_rfl) (by simp) ?_;refine AllReadyIn.cons rfl (fun K hK=>?_) AllReadyIn.nil;go_simp;refine hK _ _ ?_;clear hK;refine wpAnyIn_done (by kernel_rfl) ?_ _
      gi_wp2
      exact ⟨X.from _,T,_,_,z⟩
    go_simp;refine ⟨trivial,?_⟩;refine (callsIn_wide.2 (clone_any b (off+x.1) (pend zs x.1 - x.1) (F - x.1) (piece zs x.1) W.drew (lo:=0) (hi:=w.heap.size) (a0.out.same (fun _ _ _=>rfl)) ab Y.out a5.out)).mono ?_;rintro e w1 ⟨g,c,rfl,hg,hr,hc,E⟩;obtain ⟨v',w2,g',cap',A,U,bL2,X,T,z⟩:=word_round (kd:=2) rfl Z.out HI.out E I.out (by simp) (by omega) hg hr hc H.out.byte;subst U;have cL1:=(E.cell (p:=⟨w.heap.size,0,none⟩) (Boxed.lt HI.out.list)).trans cL;have a2:w.heap.size<w1.heap.size:=Nat.lt_of_lt_of_le (Boxed.lt HI.out.list) E.size;have cL2:=Boxed.cell bL2;have fL2:=Boxed.frozen bL2;have J:Hid ((Builtin.append_ #[79, 79] 79 #[v,.slice (some ⟨w1.heap.size,0,none⟩) 1 1]).run Tryz.prog (w1.alloc (.cells #[.int .i64 2,.int .i64 (x.1:Nat),.slice (some ⟨g,0,none⟩) (pend zs x.1 - x.1) c] 115))=.ok (.slice (some ⟨g',0,none⟩) (ts.length+1) cap') w2):=A;clear A hr E;refine hK _ _ ?_;clear hK;refine wpAnyIn_take (i:=5) (v:=.agg #[.int .i64 2,.int .i64 (x.1:Nat),.slice (some ⟨g,0,none⟩) (pend zs x.1 - x.1) c]) rfl rfl (by kernel_rfl) (by kernel_rfl) (by kernel_rfl) (fun _ _ _ h=>h) ⟨Or.inl ⟨by rfl,fun w'=>by go_simp⟩,fun _=>rfl⟩ ?_;refine wpAnyIn_ready (rs:=[0,6]) (by kernel_rfl) (by simp) ?_;refine AllReadyIn.cons rfl (fun K hK=>?_) (AllReadyIn.cons rfl (fun K hK=>?_) AllReadyIn.nil)
    · go_simp;refine hK _ _ ?_;clear hK;refine wpAnyIn_ready (rs:=[6]) (by kernel_rfl) (by simp) ?_;refine AllReadyIn.cons rfl (fun K hK=>?_) AllReadyIn.nil;go_simp;refine hK _ _ ?_;clear hK;refine wpAnyIn_ready (rs:=[7]) (by kernel_rfl) (by simp) ?_;refine AllReadyIn.cons rfl (fun K hK=>?_) AllReadyIn.nil;refine stepIn_append_own rfl rfl (.tmp 32) (.tmp 38) 79 rfl 79 rfl v (.slice (some ⟨w1.heap.size,0,none⟩) 1 1) rfl rfl _ _ J.out ?_;refine hK _ _ ?_;clear hK;refine wpAnyIn_ready (rs:=[8]) (by kernel_rfl) (by simp) ?_;refine AllReadyIn.cons rfl (fun K hK=>?_) AllReadyIn.nil;go_simp;refine hK _ _ ?_;clear hK;refine wpAnyIn_done (by kernel_rfl) ?_ _
      gi_wp2
      exact ⟨X.from _,T,_,_,z⟩
    go_simp;refine hK _ _ ?_;clear hK;refine wpAnyIn_ready (rs:=[0]) (by kernel_rfl) (by simp) ?_;refine AllReadyIn.cons rfl (fun K hK=>?_) AllReadyIn.nil;go_simp;refine hK _ _ ?_;clear hK;refine wpAnyIn_ready (rs:=[7]) (by kernel_rfl) (by simp) ?_;refine AllReadyIn.cons rfl (fun K hK=>?_) AllReadyIn.nil;refine stepIn_append_own rfl rfl (.tmp 32) (.tmp 38) 79 rfl 79 rfl v (.slice (some ⟨w1.heap.size,0,none⟩) 1 1) rfl rfl _ _ J.out ?_;refine hK _ _ ?_;clear hK;refine wpAnyIn_ready (rs:=[8]) (by kernel_rfl) (by simp) ?_;refine AllReadyIn.cons rfl (fun K hK=>?_) AllReadyIn.nil;go_simp;refine hK _ _ ?_;clear hK;refine wpAnyIn_done (by kernel_rfl) ?_ _
    gi_wp2
    exact ⟨X.from _,T,_,_,z⟩
  · have V:Below W.heap.size W (W.alloc (.cells #[.int .i64 3,.int .i64 (x.1:Nat),.slice none 0 0] 115)):=(Below.refl _ W).alloc (Nat.le_refl _) _;have N:(W.alloc (.cells #[.int .i64 3,.int .i64 (x.1:Nat),.slice none 0 0] 115)).ownsRow w.heap.size 115 3 v ts.length (flatT ts gs):=by have:=(HI.out.own.below V).row;rwa [← Z.out] at this
    have hG:(3:Int)=(tokAt zs x.1).kind∧Value.slice none 0 0=txv (tokAt zs x.1) (0,0):=⟨I.out,(txv_nil _ (by simp only [tokAt];rw [← I.out];simp)).symm⟩;have HG:Hid ((3:Int)=(tokAt zs x.1).kind∧Value.slice none 0 0=txv (tokAt zs x.1) (0,0)):=hG;have HE:Hid ((tokAt zs x.1).text=[]):=by unfold Hid;simp only [tokAt];rw [← I.out];simp
    have HW:Hid (Below W.heap.size W (W.alloc (.cells #[.int .i64 3,.int .i64 (x.1:Nat),.slice none 0 0] 115))):=V;have a3:Hid ((W.alloc (.cells #[.int .i64 3,.int .i64 (x.1:Nat),.slice none 0 0] 115)).ownsRow w.heap.size 115 3 v ts.length (flatT ts gs)):=N;have aj:Hid (kindOf (piece zs x.1)≠0):=by unfold Hid;rw [← I.out];simp
    clear V N hG
    gi_wp2_with (first | (refine ⟨trivial,?_⟩;gi_at_call 73;refine (CallsIn.inRound l (callsIn_wide.2 (pieceKind_any _ _ _ (piece zs x.1) _ a0.out))).mono ?_;rintro e w1 ⟨rfl,hw⟩;rw [hw,← I.out];clear hw) | (gi_at_builtin;refine wpListIn_append_own _ rfl (.tmp 23) (.tmp 27) 79 rfl w.heap.size 115 i0 (.agg #[.int .i64 0,.int .i64 0,.slice none 0 0]) 3 40 Tryz.underlying79 aa a9 a8 a7 rfl (by decide) v ts.length (flatT ts gs) rfl a3.out ⟨W.heap.size,0,none⟩ 1 1 [.int .i64 3,.int .i64 (x.1:Nat),.slice none 0 0] rfl rfl (new3 _ _ _ _ _ _ rfl) (one3 _ _ _ _ _) (by unfold maxLen;omega) (by omega) (by simp;omega) ?_;intro v' w2 O G a1;obtain ⟨g',cap',U,bL2,ah,T,z⟩:=round_tok rfl Z.out HI.out HW.out aj.out HG.out (fun h=>absurd HE.out h) H.out.byte O G;subst U;have cL2:=Boxed.cell bL2;have fL2:=Boxed.frozen bL2;clear O G a1))
    exact ⟨ah.from _,T,_,_,z⟩
  have V:Below W.heap.size W (W.alloc (.cells #[.int .i64 4,.int .i64 (x.1:Nat),.slice none 0 0] 115)):=(Below.refl _ W).alloc (Nat.le_refl _) _;have N:(W.alloc (.cells #[.int .i64 4,.int .i64 (x.1:Nat),.slice none 0 0] 115)).ownsRow w.heap.size 115 3 v ts.length (flatT ts gs):=by have:=(HI.out.own.below V).row;rwa [← Z.out] at this
  have hG:(4:Int)=(tokAt zs x.1).kind∧Value.slice none 0 0=txv (tokAt zs x.1) (0,0):=⟨I.out,(txv_nil _ (by simp only [tokAt];rw [← I.out];simp)).symm⟩;have HG:Hid ((4:Int)=(tokAt zs x.1).kind∧Value.slice none 0 0=txv (tokAt zs x.1) (0,0)):=hG;have HE:Hid ((tokAt zs x.1).text=[]):=by unfold Hid;simp only [tokAt];rw [← I.out];simp
  have HW:Hid (Below W.heap.size W (W.alloc (.cells #[.int .i64 4,.int .i64 (x.1:Nat),.slice none 0 0] 115))):=V;have a3:Hid ((W.alloc (.cells #[.int .i64 4,.int .i64 (x.1:Nat),.slice none 0 0] 115)).ownsRow w.heap.size 115 3 v ts.length (flatT ts gs)):=N;have aj:Hid (kindOf (piece zs x.1)≠0):=by unfold Hid;rw [← I.out];simp
  clear V N hG
  gi_wp2_with (first | (refine ⟨trivial,?_⟩;gi_at_call 73;refine (CallsIn.inRound l (callsIn_wide.2 (pieceKind_any _ _ _ (piece zs x.1) _ a0.out))).mono ?_;rintro e w1 ⟨rfl,hw⟩;rw [hw,← I.out];clear hw) | (gi_at_builtin;refine wpListIn_append_own _ rfl (.tmp 23) (.tmp 27) 79 rfl w.heap.size 115 i0 (.agg #[.int .i64 0,.int .i64 0,.slice none 0 0]) 3 40 Tryz.underlying79 aa a9 a8 a7 rfl (by decide) v ts.length (flatT ts gs) rfl a3.out ⟨W.heap.size,0,none⟩ 1 1 [.int .i64 4,.int .i64 (x.1:Nat),.slice none 0 0] rfl rfl (new3 _ _ _ _ _ _ rfl) (one3 _ _ _ _ _) (by unfold maxLen;omega) (by omega) (by simp;omega) ?_;intro v' w2 O G a1;obtain ⟨g',cap',U,bL2,ah,T,z⟩:=round_tok rfl Z.out HI.out HW.out aj.out HG.out (fun h=>absurd HE.out h) H.out.byte O G;subst U;have cL2:=Boxed.cell bL2;have fL2:=Boxed.frozen bL2;clear O G a1))
  exact ⟨ah.from _,T,_,_,z⟩
 case done =>
  rintro D ys W hD rfl ⟨v,gs,hI⟩ hK;have cL:=Boxed.cell hI.list;have cB:=Boxed.cell hI.bad
  gi_wp2
  refine wpIn_wide.2 ?_;go_quiet (fail)
  gi_wp2
  rw [Exit.noGoto_ret];have ac:(W.drewN nq).heap[D]?=some (.deferred (some [])):=hK;refine ⟨by simp,.inl ⟨_,_,rfl,run_takeDeferred ac,?_⟩⟩;have hE:toks zs=((posFrom zs (n+1) 0).map (fun x=>tokAt zs x.1),-1):=by rw [HT.out,goToks_good zs _ _ hI.good];simp
  have hO:OwnT w.heap.size (W.drewN nq) v ((posFrom zs (n+1) 0).map (fun x=>tokAt zs x.1)) gs:=hI.own.of_cells fun _ _ _ _ h=>h
  have ay:∀ r,some D=some r→∃ o:Obj,(W.drewN nq).heap[r]?=some o∧o.isCells=false:=fun r e=>by cases e;exact ⟨_,ac,rfl⟩
  have ai:w.heap.size≤D:=by simp at hD;omega
  exact ⟨_,results_tmp2 rfl _ _ _,v,gs,by rw [hE];rfl,by rw [hE];exact hO.noncells (grownBy_putObj' _ D _) ay,(below_drewN hI.bel nq).grown (grownBy_putObj' _ D _) (by have:=Boxed.lt hI.list;simp;omega) (fun k e=>by cases e;exact ai)⟩
 case stop =>
  rintro D c pre W hD ak ⟨rfl,am,pre',x,rfl,az,af,bL',bB'⟩ hK;have cL:=Boxed.cell bL';have cB:=Boxed.cell bB'
  gi_wp2
  refine wpIn_wide.2 ?_;go_quiet (fail)
  gi_wp2
  rw [Exit.noGoto_ret];have ac:(W.drewN nq).heap[D]?=some (.deferred (some [])):=hK;refine ⟨by simp,.inl ⟨_,_,rfl,run_takeDeferred ac,?_⟩⟩;obtain ⟨rest,a6⟩:=ak;have hE:toks zs=([],((x.1:Nat):Int)):=by rw [HT.out,← a6,List.append_assoc,List.cons_append,List.nil_append];exact goToks_bad zs pre' x rest [] az af
  have ai:w.heap.size≤D:=by simp at hD;omega
  exact ⟨_,results_tmp2 rfl _ _ _,.slice none 0 0,[],by rw [hE];rfl,by rw [hE];exact OwnT.nil _ _,(below_drewN am nq).grown (grownBy_putObj' _ D _) (by have:=Boxed.lt bL';simp;omega) (fun k e=>by cases e;exact ai)⟩
end Go.Proofs.YtocpeiaolofodaaGreat
