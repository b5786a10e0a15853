/- The sets of words that the program keeps; the words of a concept put to them. -/
import Derived.Test.YtocpeiaolofodaaGreatNG11
import Derived.Test.YtocpeiaolofodaaGreatNG1
import Derived.Maps.OwnSet
import Derived.RangeFuncNested
import Derived.Test.YtocpeiaolofodaaGreatNG10
namespace Go.Proofs.YtocpeiaolofodaaGreat
section
open Go.RowKit Go.Maps
theorem Tryz.undStr:Tryz.prog.underlying 9=some .string:=by kernel_rfl
theorem Tryz.undSet:Tryz.prog.underlying 49=some (.map 9 125):=by kernel_rfl
theorem lawStr:Keyed Tryz.prog 9:=string_keyed Tryz.undStr
def litW (zs:List Int):Lit:=.string (strOfNums zs).data.toList
theorem litW_inj {xs ys:List Int} (hx:Byt xs) (hy:Byt ys) (h:litW xs=litW ys):xs=ys:=by
 have e:(strOfNums xs).data.toList=(strOfNums ys).data.toList:=by simpa [litW] using h
 have:=str_inj hx hy;rw [ByteArray.toList_eq,ByteArray.toList_eq,e] at this;simp at this;exact this
theorem keyW {zs:List Int} (h:zs.length≤9223372036854775807):keyOf Tryz.prog 9 (.string (strOfNums zs))=some (litW zs) :=
 WideMaps.keyOf_string_mk Tryz.undStr (by rw [strOfNums_size];unfold maxLen;omega)
def WSet (w:World) (b:Nat) (L:List (List Int)):Prop:=∃ D:DataW Unit,w.ownsMap Tryz.prog 9 unitElem b L.length D∧(∀ kl,has D kl=true ↔ ∃ z∈L,kl=litW z)∧size D=L.length∧GoodV L
theorem WSet.good {w:World} {b:Nat} {L:List (List Int)} (h:WSet w b L):GoodV L:=by obtain ⟨_,_,_,_,h⟩:=h;exact h
theorem WSet.lt {w:World} {b:Nat} {L:List (List Int)} (h:WSet w b L):b<w.heap.size:=by obtain ⟨_,h,_⟩:=h;exact h.lt
theorem WSet.kept {w w':World} {b:Nat} {L:List (List Int)} {row:Option Nat} (h:WSet w b L) (hg:w.grownBy w' row) (ad:some b≠row):WSet w' b L:=by
 obtain ⟨D,h1,h2⟩:=h;exact ⟨D,h1.kept hg ad,h2⟩
theorem WSet.below {w w':World} {b B:Nat} {L:List (List Int)} (h:WSet w b L) (hb:Below B w w') (hB:b<B):WSet w' b L:=by
 obtain ⟨D,⟨es,clock,e1,r⟩,h2⟩:=h;exact ⟨D,⟨es,clock,(hb.block b hB).trans e1,r⟩,h2⟩
theorem WSet.made (w:World):WSet (w.alloc (.map #[] 0)) w.heap.size [] :=
 ⟨.map [],World.ownsMap_made w _ _ _,fun kl=>by simp [has],rfl,GoodV.nil⟩
theorem WSet.noCells {w:World} {b:Nat} {L:List (List Int)} (h:WSet w b L):∃ o,w.heap[b]?=some o∧o.isCells=false:=by
 obtain ⟨D,⟨es,clock,e1,_⟩,_⟩:=h;exact ⟨_,e1,rfl⟩
theorem ownsMap_tight {H:Type} {P:Program} {k:TypeId} {R:Value→Option (DataW H × List MemPlace)} {w:World} {b n m:Nat} {D:DataW H} (h:w.ownsMap P k R b n D) (hm:size D≤m):w.ownsMap P k R b m D:=by
 obtain ⟨es,clock,h1,h2,h3,rfl⟩:=h;refine ⟨es,clock,h1,h2,?_,rfl⟩;simp only [size,length_sorted,List.length_map,Array.length_toList] at hm;exact hm
theorem wset_has {L:List (List Int)} {D:DataW Unit} (h:∀ kl,has D kl=true ↔ ∃ z∈L,kl=litW z) (hg:GoodV L) {zs:List Int} (hz:Byt zs):has D (litW zs)=decide (zs∈L):=by
 by_cases hm:zs∈L
 · rw [decide_eq_true hm];exact (h _).2 ⟨zs,hm,rfl⟩
 rw [decide_eq_false hm];cases e:has D (litW zs)
 · rfl
 obtain ⟨z,aq,aH⟩:=(h _).1 e;exact absurd (litW_inj hz (hg.byt z aq) aH ▸ aq) hm
theorem wset_put {L:List (List Int)} {zs:List Int} {D:DataW Unit} {w:World} {b n:Nat} (h0:w.ownsMap Tryz.prog 9 unitElem b n (D.put (litW zs) (.agg []))) (hT:Tidy D) (h:∀ kl,has D kl=true ↔ ∃ z∈L,kl=litW z) (hs:size D=L.length) (hg:GoodV L) (hz:Byt zs) :
    WSet w b (insW L zs)∧size (D.put (litW zs) (.agg []))=(insW L zs).length:=by
 have e1:size (D.put (litW zs) (.agg []))=(insW L zs).length:=by
  rw [size_put hT,wset_has h hg hz];by_cases hm:zs∈L
  · rw [insW_old hz hg.srt hg.byt hm,hs];simp [hm]
  rw [insW_new hz hg.srt hg.byt hm,hs];simp [hm]
 refine ⟨⟨_,ownsMap_tight h0 (by rw [e1];exact Nat.le_refl _),fun kl=>?_,e1,hg.ins hz⟩,e1⟩;by_cases e:kl=litW zs
 · subst e;rw [has_put_same hT.isMap (by unfold litW;trivial)];exact ⟨fun _=>⟨zs,(insW_mem hz hg.srt hg.byt).2 (.inl rfl),rfl⟩,fun _=>rfl⟩
 rw [has_put_other e,h];constructor
 · rintro ⟨z,h1,h2⟩;exact ⟨z,(insW_mem hz hg.srt hg.byt).2 (.inr h1),h2⟩
 rintro ⟨z,h1,h2⟩;rcases (insW_mem hz hg.srt hg.byt).1 h1 with rfl | h3
 · exact absurd h2 e
 exact ⟨z,h3,h2⟩
set_option maxRecDepth 100000 in
set_option maxHeartbeats 1000000 in
theorem setAdd_any {b:Nat} {L:List (List Int)} {zs:List Int} {w:World} (h:WSet w b L) (hz:Byt zs) (hn:zs.length≤9223372036854775807) (hl:L.length≤1048576) :
    Calls Tryz.prog 71 #[.map (some b),.string (strOfNums zs)] w fun e w'=>e=.returned (.bool (decide (zs ∉ L)))∧WSet w' b (insW L zs)∧w.grownBy w' (some b):=by
 obtain ⟨D,Z,aa,ar,A⟩:=h;have hT:=Z.tidy lawStr;have a9:=keyW hn;have HP:Hid (∀ (w':World) (n:Nat),w'.ownsMap Tryz.prog 9 unitElem b n (D.put (litW zs) (.agg []))→WSet w' b (insW L zs)∧size (D.put (litW zs) (.agg []))=(insW L zs).length):=fun w' n h0=>wset_put h0 hT aa ar A hz
 have HN:Hid (L.length<(insW L zs).length ↔ zs ∉ L):=by
  by_cases hm:zs∈L
  · unfold Hid;rw [insW_old hz A.srt A.byt hm];simp [hm]
  unfold Hid;rw [insW_new hz A.srt A.byt hm];simp [hm]
 obtain ⟨s,hs⟩:∃ s,s=strOfNums zs:=⟨_,rfl⟩;rw [← hs] at a9 ⊢;clear hs aa hT;go_enter Tryz.func71, Tryz.ntmps71
 go_wp2_with (first
  | (at_len;refine wpList_len_own _ rfl _ 49 rfl 9 125 Tryz.undSet unitElem b L.length D rfl Z ?_)
  | (at_mapUpdate;refine wpList_mapUpdate_own _ rfl _ _ _ 49 rfl 9 125 lawStr Tryz.undSet unitElem b L.length D rfl Z (by unfold maxLen;omega) _ _ _ rfl rfl a9 (.agg []) [] unitElem_mk ?_;intro w1 Y a0)
  | (at_len;refine wpList_len_own _ rfl _ 49 rfl 9 125 Tryz.undSet unitElem b (L.length+1) (D.put (litW zs) (.agg [])) rfl Y ?_)
  | go_in)
 go_ret;obtain ⟨h1,h2⟩:=HP.out _ _ Y;refine ⟨rb ?_,h1,a0⟩;rw [h2];exact decide_eq_decide.2 HN.out
set_option maxRecDepth 100000 in
set_option maxHeartbeats 1000000 in
theorem addText_any {b:Nat} {L:List (List Int)} {zs:List Int} {a:Option Addr} {n ag:Nat} {w:World} {lo hi:Nat} (h:WSet w b L) (hr:Rd lo hi w a n ag zs) (hl:L.length≤1048576) :
    Calls Tryz.prog 48 #[.map (some b),.slice a n ag] w fun e w'=>e=.returned (.tuple #[])∧WSet w' b (addW L zs)∧w.grownBy w' (some b):=by
 have aG:=conv_any hr;have HR:Hid (Rd lo hi w a n ag zs):=hr;have HW:Hid (WSet w b L):=h;have HL:Hid (zs.length=n):=hr.len;have HC:Hid (zs.length≤9223372036854775807):=by have:=hr.len;have:=hr.fits;unfold Hid;omega
 clear h hr;by_cases h0:n=0
 · have HA:Hid (addW L zs=L):=by unfold Hid addW;rw [if_pos (by rw [HL.out];exact h0)]
   have ai:¬ (0<(n:Int)):=by omega
   go_enter Tryz.func48, Tryz.ntmps48;go_wp2_with fail;refine bodyPost_end (results_none rfl _ _ _) rfl ?_;exact ⟨rfl,by rw [HA.out];exact HW.out,⟨rfl,rfl,rfl,Nat.le_refl _,fun _ _ _=>rfl⟩⟩
 have HA:Hid (addW L zs=insW L zs):=by unfold Hid addW;rw [if_neg (by rw [HL.out];exact h0)]
 have ai:0<(n:Int):=by omega
 go_enter Tryz.func48, Tryz.ntmps48;go_wp2_with fail;refine (setAdd_any HW.out HR.out.byte HC.out hl).mono ?_;rintro e w' ⟨rfl,h1,h2⟩;go_wp2_with fail;refine bodyPost_end (results_none rfl _ _ _) rfl ?_;exact ⟨rfl,by rw [HA.out];exact h1,h2⟩
end
section
open Go.RowKit Go.Shelf
attribute [local go_sem] Oper.semAt_some
structure GrS (S:Nat→Prop) (w w':World):Prop where
 os:w'.os=w.os
 tape:w'.tape=w.tape
 output:w'.output=w.output
 size:w.heap.size≤w'.heap.size
 block:∀ k,k<w.heap.size→¬ S k→w'.heap[k]?=w.heap[k]?
theorem GrS.refl (S:Nat→Prop) (w:World):GrS S w w:=⟨rfl,rfl,rfl,Nat.le_refl _,fun _ _ _=>rfl⟩
theorem GrS.trans {S:Nat→Prop} {a b c:World} (h:GrS S a b) (k:GrS S b c):GrS S a c :=
 ⟨k.os.trans h.os,k.tape.trans h.tape,k.output.trans h.output,Nat.le_trans h.size k.size,fun x hx hn=>(k.block x (Nat.lt_of_lt_of_le hx h.size) hn).trans (h.block x hx hn)⟩
theorem GrS.of_below {S:Nat→Prop} {w w':World} (h:Below w.heap.size w w'):GrS S w w':=⟨h.os,h.tape,h.output,h.size,fun k hk _=>h.block k hk⟩
theorem GrS.of_grown {S:Nat→Prop} {w w':World} {row:Option Nat} (h:w.grownBy w' row) (hr:∀ b,row=some b→S b):GrS S w w':=⟨h.os,h.tape,h.output,h.size,fun k hk hn=>h.block k hk (fun e=>hn (hr k e.symm))⟩
theorem GrS.mono {S T:Nat→Prop} {w w':World} (h:GrS S w w') (aK:∀ k,S k→T k):GrS T w w':=⟨h.os,h.tape,h.output,h.size,fun k hk hn=>h.block k hk (fun hs=>hn (aK k hs))⟩
theorem GrS.below {S:Nat→Prop} {w w':World} {B:Nat} (h:GrS S w w') (hS:∀ k,S k→B≤k) (hB:B≤w.heap.size):Below B w w':=⟨h.os,h.tape,h.output,h.size,fun k hk=>h.block k (by omega) (fun hs=>by have:=hS k hs;omega)⟩
theorem GrS.later {S:Nat→Prop} {a b c:World} (h:GrS S a b) (k:GrS (fun x=>S x∨a.heap.size≤x) b c):GrS S a c :=
 ⟨k.os.trans h.os,k.tape.trans h.tape,k.output.trans h.output,Nat.le_trans h.size k.size,fun x hx hn=>(k.block x (Nat.lt_of_lt_of_le hx h.size) (fun e=>e.elim hn (fun e=>by omega))).trans (h.block x hx hn)⟩
theorem WSet.grs {S:Nat→Prop} {w w':World} {b:Nat} {L:List (List Int)} (h:WSet w b L) (hg:GrS S w w') (hn:¬ S b):WSet w' b L:=by
 have aA:=h.lt;obtain ⟨D,⟨es,clock,e1,r⟩,h2⟩:=h;exact ⟨D,⟨es,clock,(hg.block b aA hn).trans e1,r⟩,h2⟩
def Two (p q k:Nat):Prop:=k=p∨k=q
def BoxV (W:World) (p bN bR bI:Nat):Prop:=W.heap[p]?=some (.cells #[.map (some bN),.map (some bR),.map (some bI)] 51 (0,0))
theorem BoxV.new (W:World) (bN bR bI:Nat):BoxV (W.alloc (.cells #[.map (some bN),.map (some bR),.map (some bI)] 51)) W.heap.size bN bR bI:=World.alloc_heap_new W _
theorem BoxV.lt {W:World} {p bN bR bI:Nat} (h:BoxV W p bN bR bI):p<W.heap.size:=(Array.getElem?_eq_some_iff.1 h).1
theorem BoxV.below {W W':World} {p bN bR bI B:Nat} (h:BoxV W p bN bR bI) (hb:Below B W W') (hB:p<B):BoxV W' p bN bR bI:=(hb.block p hB).trans h
theorem BoxV.grs {S:Nat→Prop} {W W':World} {p bN bR bI:Nat} (h:BoxV W p bN bR bI) (hg:GrS S W W') (hn:¬ S p):BoxV W' p bN bR bI:=(hg.block p h.lt hn).trans h
theorem BoxV.cells {W:World} {p bN bR bI:Nat} (h:BoxV W p bN bR bI):W.cell? ⟨p,0,none⟩=some (.map (some bN))∧W.cell? ⟨p,1,none⟩=some (.map (some bR))∧W.cell? ⟨p,2,none⟩=some (.map (some bI)):=by
 unfold BoxV at h;refine ⟨?_,?_,?_⟩ <;> simp [World.cell?,h]
theorem boxV_noncells {W W':World} {p bN bR bI:Nat} {row:Option Nat} (h:BoxV W p bN bR bI) (hg:W.grownBy W' row) (hr:∀ r,row=some r→∃ o:Obj,W.heap[r]?=some o∧o.isCells=false):BoxV W' p bN bR bI :=
 (hg.block p h.lt (fun e=>by
  obtain ⟨o,ho,hc⟩:=hr p e.symm
  rw [show W.heap[p]?=_ from h] at ho;cases ho;cases hc)).trans h
theorem KpC.of_map {B n1:Nat} {W W':World} {b:Nat} {L:List (List Int)} (h:WSet W b L) (hg:W.grownBy W' (some b)) (hB:B≤b):KpC B n1 W W' :=
 ⟨(Below.refl B W).grown hg (by have:=h.lt;omega) (fun k e=>by cases e;exact hB),fun k o _ hk hc=>by
  obtain ⟨o',ay,aB⟩:=h.noCells
  exact (hg.block k (Array.getElem?_eq_some_iff.1 hk).1 (fun e=>by cases e;rw [hk] at ay;cases ay;rw [hc] at aB;cases aB)).trans hk⟩
structure InvV {lo hi:Nat} {w0:World} (s n1 bN bR bI:Nat) (LN LR:List (List Int)) (w:World) (pre:List (Item lo hi w0)) (W:World):Prop where
 nm:WSet W bN ((pre.map Item.m).foldl naP LN)
 rl:WSet W bR ((pre.map Item.m).foldl rlP LR)
 box:BoxV W s bN bR bI
 gr:GrS (Two bN bR) w W
 size:n1≤W.heap.size
theorem InvV.own {lo hi:Nat} {w0:World} {s n1 bN bR bI:Nat} {LN LR:List (List Int)} {w:World} {B:Nat} (hw:w.heap.size≤B) (h1:bN<B) (h2:bR<B):OwnFrom B (InvV (lo:=lo) (hi:=hi) (w0:=w0) s n1 bN bR bI LN LR w):=by
 rintro pre W W' row ⟨a1,a2,a3,a4,a5⟩ hg hr;refine ⟨a1.kept hg (fun e=>by have:=(hr _ e.symm).1;omega),a2.kept hg (fun e=>by have:=(hr _ e.symm).1;omega),boxV_noncells a3 hg fun r e=>(hr r e).2,a4.later (GrS.of_grown hg (fun b e=>.inr (by have:=(hr b e).1;omega))),Nat.le_trans a5 hg.size⟩
theorem InvV.below {lo hi:Nat} {w0:World} {s n1 bN bR bI:Nat} {LN LR:List (List Int)} {w W W':World} {pre:List (Item lo hi w0)} (h:InvV s n1 bN bR bI LN LR w pre W) (hb:Below W.heap.size W W'):InvV s n1 bN bR bI LN LR w pre W' :=
 ⟨h.nm.below hb h.nm.lt,h.rl.below hb h.rl.lt,h.box.below hb h.box.lt,h.gr.trans (GrS.of_below hb),Nat.le_trans h.size hb.size⟩
theorem foldl_snocI {lo hi:Nat} {w0:World} (f:List (List Int)→Nat × CN→List (List Int)) (L:List (List Int)) (pre:List (Item lo hi w0)) (x:Item lo hi w0):((pre++[x]).map Item.m).foldl f L=f ((pre.map Item.m).foldl f L) x.m:=by simp
theorem naP_len {L:List (List Int)} {ps:List (Nat × CN)} (h:GoodV L) (hb:BytP ps):(ps.foldl naP L).length≤L.length+ps.length:=(h.na hb).2
theorem rlP_len {L:List (List Int)} {ps:List (Nat × CN)} (h:GoodV L) (hb:BytP ps):(ps.foldl rlP L).length≤L.length+ps.length:=(h.rl hb).2
theorem items_byt {lo hi:Nat} {w0:World} (pre:List (Item lo hi w0)):BytP (pre.map Item.m):=by
 intro p hp;obtain ⟨x,hx,rfl⟩:=List.mem_map.1 hp;have:=x.rd.byts x.deep (x.deep,x.c) (by rw [parts_eq];simp);exact this
end
section
open Go.RowKit Go.Shelf
attribute [local go_sem] Oper.semAt_some
set_option maxRecDepth 100000 in
set_option maxHeartbeats 2000000 in
theorem addCon_any {bN bR bI:Nat} {LN LR:List (List Int)} {d:Nat} {v:Value} {c:CN} {w:World} {lo hi B:Nat} (hN:WSet w bN LN) (hR:WSet w bR LR) (ad:bN≠bR) (h:RdC lo hi w d v c) (af:hi≤B) (aP:B≤bN) (aO:B≤bR)
    (bc:c.bulk≤1048576) (bb:LN.length+(parts c 1).length≤1048576) (ba:LR.length+(parts c 1).length≤1048576) :
    Calls Tryz.prog 47 #[.agg #[.map (some bN),.map (some bR),.map (some bI)],v] w fun e w' =>
     e=.returned (.tuple #[])∧WSet w' bN ((parts c 1).foldl naP LN)∧WSet w' bR ((parts c 1).foldl rlP LR)∧GrS (Two bN bR) w w':=by
 have aV:Hid (RdC lo hi w d v c):=h;obtain ⟨k,na,nn,nc,ra,rn,rc,ka,kn,kc,rfl⟩:=h.shape;have ak:=hN.lt;have aj:=hR.lt;clear h;refine (callsIn_wide (n:=6)).1 ?_;refine callsIn_of_wp_marks Tryz.func47 rfl trivial ?_ rfl;simp only [Tryz.ntmps47,List.size_toArray,List.length_cons,List.length_nil,Nat.reduceAdd,Nat.reduceSub,Array.replicate_succ,Array.replicate_zero,List.push_toArray,List.append_toArray,List.nil_append,List.cons_append]
 gi_wp2_with (first | (refine ⟨trivial,?_⟩;gi_at_call 69;refine (conTree_in _ _ _ _ _ _ _ _ _ _ _ _).mono ?_;rintro e w' ⟨rfl,rfl⟩) | (refine ⟨trivial,?_⟩;gi_at_call 70;refine (all_in _ _ _ _ _ _ _ _ _ _ _ _).mono ?_;rintro e w' ⟨rfl,rfl⟩))
 obtain ⟨W0,a8⟩:∃ W0,W0=(((((w.alloc (.cells #[.map (some bN),.map (some bR),.map (some bI)] 51)).alloc (.cells #[.int .i64 k,.slice na nn nc,.slice ra rn rc,.slice ka kn kc] 37)).alloc (.cells #[.int .i64 k,.slice na nn nc,.slice ra rn rc,.slice ka kn kc] 37)).alloc (.cells #[.int .i64 k,.slice na nn nc,.slice ra rn rc,.slice ka kn kc,.func (.func 95) #[] #[]] 107)).alloc (.cells #[.int .i64 k,.slice na nn nc,.slice ra rn rc,.slice ka kn kc,.func (.func 95) #[] #[]] 107)):=⟨_,rfl⟩;have ar:W0.heap.size=w.heap.size+1+1+1+1+1:=by rw [a8];simp
 have ae:Below w.heap.size w W0:=by rw [a8];exact (((((Below.refl _ w).alloc (Nat.le_refl _) _).alloc (by simp) _).alloc (by simp;omega) _).alloc (by simp;omega) _).alloc (by simp;omega) _
 have aM:BoxV W0 w.heap.size bN bR bI:=by
  rw [a8];refine BoxV.below (B:=w.heap.size+1) (BoxV.new w bN bR bI) ?_ (by omega);exact ((((Below.refl _ _).alloc (by simp) _).alloc (by simp) _).alloc (by simp) _).alloc (by simp) _
 have aN:BoxT W0 (w.heap.size+1+1+1+1) k na nn nc ra rn rc ka kn kc:=by
  rw [a8];have:=World.alloc_heap_new ((((w.alloc (.cells #[.map (some bN),.map (some bR),.map (some bI)] 51)).alloc (.cells #[.int .i64 k,.slice na nn nc,.slice ra rn rc,.slice ka kn kc] 37)).alloc (.cells #[.int .i64 k,.slice na nn nc,.slice ra rn rc,.slice ka kn kc] 37)).alloc (.cells #[.int .i64 k,.slice na nn nc,.slice ra rn rc,.slice ka kn kc,.func (.func 95) #[] #[]] 107)) (.cells #[.int .i64 k,.slice na nn nc,.slice ra rn rc,.slice ka kn kc,.func (.func 95) #[] #[]] 107);simp only [World.size_alloc] at this;exact this
 rw [← a8];clear a8;have aC:InvV (lo:=lo) (hi:=hi) (w0:=w) w.heap.size (w.heap.size+1+1+1+1+1) bN bR bI LN LR w [] W0:=⟨hN.below ae ak,hR.below ae aj,aM,GrS.of_below ae,by omega⟩;have aJ:=hN.good;have aI:=hR.good
 refine wpIn_rangeFunc_ownH rfl (by omega) (gf:=96) (lb:=#[.pointer (some ⟨w.heap.size+1+1+1+1,0,none⟩)]) rfl trivial (enters_of Tryz.func96 (by kernel_rfl) rfl)
  (parts_stops (lo:=lo) (hi:=hi) (B:=B) (n1:=w.heap.size+1+1+1+1+1) 5 (w.heap.size+1+1+1+1) af (by omega) c aV.out (by omega) (ae.mono (by omega)) (by omega) aN) KpC.trans
  (fun W l o o' hl hW hc _=>KpC.putObj W l o o' (by omega) hW hc) (Below.refl _ _) (fun _=>rfl)
  (InvV w.heap.size (w.heap.size+1+1+1+1+1) bN bR bI LN LR w) (fun _ _ _=>False) (InvV.own (by omega) (by omega) (by omega)) (fun _ _ _ _ _ h _ _=>h)
  aC
  (AxO (w.heap.size+1+1+1+1+1) (fun dv pv bx=>#[.agg #[.map (some bN),.map (some bR),.map (some bI)],.agg #[.int .i64 k,.slice na nn nc,.slice ra rn rc,.slice ka kn kc],.pointer (some ⟨w.heap.size,0,none⟩),.pointer (some ⟨w.heap.size+1,0,none⟩),undef,bx,.agg #[.int .i64 k,.slice na nn nc,.slice ra rn rc,.slice ka kn kc],.agg #[.int .i64 k,.slice na nn nc,.slice ra rn rc,.slice ka kn kc,.func (.func 95) #[] #[]],.func (.func 96) #[] #[.pointer (some ⟨w.heap.size+1+1+1+1,0,none⟩)],dv,pv,undef,undef,undef,undef,undef,undef,undef,undef,undef,undef])) AxO.own ?assign ?body ?done ?stop
 case assign =>
  rintro l pre ⟨deep,v,cx,dx,rd⟩ W K hi hK;obtain ⟨xk,N,I,J,G,E,F,X,U,V,rfl⟩:=rd.shape;unfold encI
  gi_wp2
  have aA:=hi.size;have hB:Below W.heap.size W (W.alloc (.cells #[.int .i64 xk,.slice N I J,.slice G E F,.slice X U V] 37)):=(Below.refl _ _).alloc (Nat.le_refl _) _
  exact hK _ _ ((keepsOthers_below hB).from _) (KpC.of_below hB (by omega)) (hi.below hB)
   ⟨W.heap.size,xk,N,I,J,G,E,F,X,U,V,hi.size,rfl,BoxC.new W _ _ _ _,rfl⟩
 case body =>
  rintro l pre ⟨deep,v,cx,dx,rd⟩ a' W hl ⟨r,hr⟩ hI ⟨Bx,xk,N,I,J,G,E,F,X,U,V,aL,hv,O,rfl⟩ al;dsimp only at hv;subst hv;have HI:Hid (InvV w.heap.size (w.heap.size+1+1+1+1+1) bN bR bI LN LR w pre W):=hI;have ao:Hid (BoxC W Bx (.int .i64 xk) (.slice N I J) (.slice G E F) (.slice X U V)):=O;have b7:Bx<W.heap.size:=O.lt;obtain ⟨q0,q1,q2,q3⟩:=O.cells;obtain ⟨p0,p1,p2⟩:=hI.box.cells;have ab:Below B w W:=hI.gr.below (fun x hx=>by rcases hx with rfl | rfl <;> omega) (by omega);have aU:Hid (RdC lo hi W dx (.agg #[.int .i64 xk,.slice N I J,.slice G E F,.slice X U V]) cx):=rd.below ab af
  obtain ⟨av,au⟩:Rd lo hi W N I J cx.name∧Rd lo hi W G E F cx.role:=by
   have:=aU.out;cases dx with
   | zero=>exact this.elim
   | succ dx =>
    obtain ⟨na,nn,nc,ra,rn,rc,ka,kn,kc,hv,g1,g2,_⟩:=this;simp only [Value.agg.injEq,Array.mk.injEq,List.cons.injEq,and_true,Value.slice.injEq] at hv;obtain ⟨_,⟨rfl,rfl,rfl⟩,⟨rfl,rfl,rfl⟩,_⟩:=hv;exact ⟨g1,g2⟩
  have aR:Hid (Rd lo hi W N I J cx.name):=av;have aQ:Hid (Rd lo hi W G E F cx.role):=au;have aT:Hid (((pre.map Item.m).foldl naP LN).length≤1048576):=by have:=naP_len aJ (items_byt pre);rw [List.length_map] at this;unfold Hid;omega
  have aS:Hid (((pre.map Item.m).foldl rlP LR).length≤1048576):=by have:=rlP_len aI (items_byt pre);rw [List.length_map] at this;unfold Hid;omega
  have b5:Hid (((pre++[(⟨deep,.agg #[.int .i64 xk,.slice N I J,.slice G E F,.slice X U V],cx,dx,rd⟩:Item lo hi w)]).map Item.m).foldl naP LN=addW ((pre.map Item.m).foldl naP LN) cx.name):=foldl_snocI _ _ _ _;have b4:Hid (((pre++[(⟨deep,.agg #[.int .i64 xk,.slice N I J,.slice G E F,.slice X U V],cx,dx,rd⟩:Item lo hi w)]).map Item.m).foldl rlP LR=addW ((pre.map Item.m).foldl rlP LR) cx.role):=foldl_snocI _ _ _ _;clear hI O hr al av au ab hN hR aC
  gi_wp2
  refine ⟨trivial,?_⟩;refine (CallsIn.inRound l (callsIn_wide.2 (addText_any HI.out.nm aR.out aT.out))).mono ?_;rintro e w1 ⟨rfl,az,a7⟩;have aY:Hid (WSet w1 bN (addW ((pre.map Item.m).foldl naP LN) cx.name)):=az;have aF:Hid (WSet w1 bR ((pre.map Item.m).foldl rlP LR)):=HI.out.rl.kept a7 (by simpa using ad.symm);have b3:Hid (W.grownBy w1 (some bN)):=a7;have aE:Hid (GrS (Two bN bR) W w1):=GrS.of_grown a7 (fun b e=>by cases e;exact .inl rfl);have ah:Hid (KpC B (w.heap.size+1+1+1+1+1) W w1):=KpC.of_map HI.out.nm a7 aP;have ac:Hid (BoxV w1 w.heap.size bN bR bI):=HI.out.box.grs aE.out (fun e=>by rcases e with e | e <;> omega);have an:Hid (BoxC w1 Bx (.int .i64 xk) (.slice N I J) (.slice G E F) (.slice X U V)):=ao.out.kept ah.out aL;have am:Hid (Rd lo hi w1 G E F cx.role):=aQ.out.same (Same.of_below ah.out.1 af);obtain ⟨u0,u1,u2,u3⟩:=an.out.cells;obtain ⟨t0,t1,t2⟩:=ac.out.cells;have b9:=a7.size;clear az a7
  gi_wp2
  refine ⟨trivial,?_⟩;refine (CallsIn.inRound l (callsIn_wide.2 (addText_any aF.out am.out aS.out))).mono ?_;rintro e w2 ⟨rfl,ax,a6⟩;have aX:Hid (WSet w2 bN (addW ((pre.map Item.m).foldl naP LN) cx.name)):=aY.out.kept a6 (by simpa using ad);have aD:Hid (GrS (Two bN bR) w1 w2):=GrS.of_grown a6 (fun b e=>by cases e;exact .inr rfl);have b2:Hid (KpC B (w.heap.size+1+1+1+1+1) w1 w2):=KpC.of_map aF.out a6 aO;have ap:Hid (BoxV w2 w.heap.size bN bR bI):=ac.out.grs aD.out (fun e=>by rcases e with e | e <;> omega);have aW:Hid (WSet w2 bR (addW ((pre.map Item.m).foldl rlP LR) cx.role)):=ax;have aZ:Hid (KeepsFrom W0.heap.size W w2):=(KeepsFrom.of_grownBy b3.out (fun j e=>by cases e;omega)).trans (KeepsFrom.of_grownBy a6 (fun j e=>by cases e;omega));have b8:=a6.size;clear ax a6
  gi_wp2
  exact ⟨aZ.out,ah.out.trans b2.out,by rw [b5.out];exact aX.out,by rw [b4.out];exact aW.out,ap.out,(HI.out.gr.trans aE.out).trans aD.out,by have:=HI.out.size;omega⟩
 case done =>
  rintro D ys W hD hS hI hK;have hm:ys.map Item.m=parts c 1:=hS;obtain ⟨g1,g2,g3,g4,g5⟩:=hI;rw [hm] at g1 g2
  gi_wp2
  refine ⟨by simp,.inl ⟨_,_,rfl,run_takeDeferred hK,?_⟩⟩;have hg:=grownBy_putObj' W D (.deferred none);exact ⟨_,results_none rfl _ _ _,rfl,g1.kept hg (fun e=>by cases e;omega),g2.kept hg (fun e=>by cases e;omega),g4.later (GrS.of_grown hg (fun b e=>.inr (by cases e;omega)))⟩
 case stop =>
  rintro D cd pre W hD b6 hI hK;exact hI.elim
end
end Go.Proofs.YtocpeiaolofodaaGreat
