/- Several texts in one: KrL, KrI4. -/
import Derived.Test.YtocpeiaolofodaaGreatKrI3
import Derived.Test.YtocpeiaolofodaaGreatNG11
import Derived.Deep.AppendLies
import Derived.Deep.RegionHeldLaw
import Derived.Maps.AppendAt
namespace Go.Proofs.YtocpeiaolofodaaGreat

section
open Go.RowKit
set_option linter.unusedVariables false
structure SeL (m:Nat) (ts:List Tok) (gs:List (Nat × Nat)) (j B t:Nat) (w:World) (v:Value) (LL:Nat→Nat→List (Addr × IntKind)):Prop where
 nd:∀ i p,((LL i p).map (·.1)).Nodup
 dj:∀ i p i' p',(i≠i'∨p≠p')→∀ x∈LL i p,∀ y∈LL i' p',x.1.block≠y.1.block
 fr:∀ i p,∀ x∈LL i p,w.frozen? x.1=false
 us:∀ i p,Use ts gs 0 j B t (LL i p)
 off:∀ i p,∀ x∈LL i p,v.ownBlock≠some x.1.block
theorem SeL.nil (ts:List Tok) (gs:List (Nat × Nat)) (j B t:Nat) (w:World) (v:Value):SeL 0 ts gs j B t w v (fun _ _=>[]) :=
 ⟨fun _ _=>by simp,fun _ _ _ _ _ x hx=>by simp at hx,fun _ _ x hx=>by simp at hx,fun _ _=>Use.nil _ _ _ _ _ _,fun _ _ x hx=>by simp at hx⟩
structure OwXs (B d:Nat) (w:World) (v:Value) (m:Nat) (vs:List Value) (xs:List AX) (Vs:Nat→XV) (LL:Nat→Nat→List (Addr × IntKind)):Prop where
 len:xs.length=m
 row:w.ownsRow B 39 13 v m vs
 at':∀ i,i<m→∀ j,j<13→vs[i*13+j]?=((Vs i).arr (xs.getD i AX.zero).kind)[j]?
 pa:∀ i,i<m→PaX w d (Vs i) (xs.getD i AX.zero) (LL i)
structure KsX (base pb g:Nat) (ts:List Tok) (gs:List (Nat × Nat)) (en:Int) (w:World) (p B:Nat) (wr:World) (v:Value) (m:Nat) (vs:List Value) (xs:List AX) (Vs:Nat→XV) (LL:Nat→Nat→List (Addr × IntKind)) (j:Nat):Prop where
 t:TkM base pb w g ts gs
 lt:pb<w.heap.size∧w.heap.size<p∧p<B
 bt:Bt pb w.heap.size w wr
 box:wr.heap[p]?=some (.cells #[v] 25 (0,0))
 res:wr.heap[w.heap.size]?=some (.cells #[.slice none 0 0] 25 (0,0))
 ow:OwXs B 6 wr v m vs xs Vs LL
 se:SeL m ts gs j B wr.heap.size wr v LL
 rdr:RdrAt wr pb g j ts en
 le:B≤wr.heap.size
section
variable {base pb g:Nat} {ts:List Tok} {gs:List (Nat × Nat)} {en:Int} {w:World} {p B:Nat} {wr w5 w6:World} {v:Value} {m:Nat} {vs:List Value} {xs:List AX} {Vs:Nat→XV} {LL:Nat→Nat→List (Addr × IntKind)} {j j':Nat}
theorem KsX.tk (h:KsX base pb g ts gs en w p B wr v m vs xs Vs LL j):TkM base pb wr g ts gs:=h.t.bt h.bt (Nat.le_of_lt h.lt.1)
theorem KsX.fm (h:KsX base pb g ts gs en w p B wr v m vs xs Vs LL j):∃ va vc,v=.slice va m vc:=by
 rcases h.ow.row.2 with ⟨e,e0⟩ | ⟨g,c,_,e,_⟩
 · exact ⟨none,0,by rw [e,e0]⟩
 exact ⟨_,c,e⟩
theorem KsX.cell (h:KsX base pb g ts gs en w p B wr v m vs xs Vs LL j):wr.cell? ⟨p,0,none⟩=some v∧wr.frozen? ⟨p,0,none⟩=false:=by
 have:=h.box;constructor
 · simp [World.cell?,this]
 simp [World.frozen?,this]
theorem ownsX_keep {base e size n:Nat} {w w':World} {v:Value} {xs:List Value} (h:w.ownsRow base e size v n xs) (hk:∀ b,v.ownBlock=some b→w'.heap[b]?=w.heap[b]?):w'.ownsRow base e size v n xs:=by
 obtain ⟨h1,h2⟩:=h;refine ⟨h1,?_⟩;rcases h2 with h2 | ⟨g,a5,cur,hv,hg,hh,r⟩
 · exact .inl h2
 exact .inr ⟨g,a5,cur,hv,hg,by rw [hk g (by rw [hv];rfl)];exact hh,r⟩
theorem KsX.keep (h:KsX base pb g ts gs en w p B wr v m vs xs Vs LL j) (hs:wr.heap.size≤w5.heap.size) (hb:Bt pb w.heap.size wr w5) (hk:∀ b,w.heap.size≤b→b<wr.heap.size→w5.heap[b]?=wr.heap[b]?) (ht:∀ b,b<w.heap.size→b≠pb→w5.heap[b]?=wr.heap[b]?) (O:j≤j') (hR:RdrAt w5 pb g j' ts en):KsX base pb g ts gs en w p B w5 v m vs xs Vs LL j':=by
 obtain ⟨q1,q2,q3⟩:=h.lt;have Z:=h.le
 have J:∀ i q,∀ x∈LL i q,w5.heap[x.1.block]?=wr.heap[x.1.block]?:=fun i q x hx=>by
  have h1:=(h.se.us i q).lt h.t (by have:=h.bt.size;omega) x hx;have h2:=(h.se.us i q).ne h.t (Nat.le_refl pb) (by omega) x hx;by_cases hw:x.1.block<w.heap.size
  · exact ht _ hw h2
  exact hk _ (by omega) h1
 have N:=h.ow.row.lt;refine ⟨h.t,h.lt,h.bt.trans hb,(hk p (by omega) (by omega)).trans h.box,(hk _ (Nat.le_refl _) (by have:=h.bt.size;omega)).trans h.res,⟨h.ow.len,ownsX_keep h.ow.row (fun b e=>hk b (by have:=(N b e).1;omega) (N b e).2),h.ow.at',fun i hi=>(h.ow.pa i hi).keep (J i)⟩,⟨h.se.nd,h.se.dj,fun i q x hx=>(World.frozen?_of_block (w:=wr) (J i q x hx)).trans (h.se.fr i q x hx),fun i q=>(h.se.us i q).mono (Nat.le_refl _) O (Nat.le_refl _) hs,h.se.off⟩,hR,Nat.le_trans Z hs⟩
theorem KsX.next (h:KsX base pb g ts gs en w p B wr v m vs xs Vs LL j) (hb:Bt pb wr.heap.size wr w5) (O:j≤j') (hR:RdrAt w5 pb g j' ts en):KsX base pb g ts gs en w p B w5 v m vs xs Vs LL j' :=
 h.keep hb.size (hb.mono h.bt.size) (fun b h1 h2=>hb.block b h2 (by have:=h.lt.1;omega)) (fun b h1 h2=>hb.block b (by have:=h.bt.size;omega) h2) O hR
theorem KsX.below (h:KsX base pb g ts gs en w p B wr v m vs xs Vs LL j) (hb:Below wr.heap.size wr w5):KsX base pb g ts gs en w p B w5 v m vs xs Vs LL j:=h.next (Bt.of_below hb) (Nat.le_refl _) (h.rdr.below hb)
theorem KsX.push (h:KsX base pb g ts gs en w p B wr v m vs xs Vs LL j) (O:j≤j') {V:XV} {x:AX} {Ls:Nat→List (Addr × IntKind)} {t:Nat} (a6:Bt pb t wr w5) (ht:wr.heap.size=t) (a2:PaX w5 6 V x Ls) (F:Se6 ts gs j j' t w5.heap.size w5 Ls) (D:KsX base pb g ts gs en w p B w5 v m vs xs Vs LL j') (hu:∀ i q,Use ts gs 0 j B t (LL i q)) (a1:∀ b,v.ownBlock=some b→b<t) {g1 z:Nat} {cs:List Value} (a4:cs=(V.arr x.kind).toList)
    (hn:w6.ownsRow B 39 13 (.slice (some ⟨g1,0,none⟩) (m+1) z) (m+1) (vs++cs)) (G:w5.grownBy w6 v.ownBlock) (T:v.ownBlock=some g1∨w5.heap.size≤g1) :
    KsX base pb g ts gs en w p B (w6.setCell ⟨p,0,none⟩ (.slice (some ⟨g1,0,none⟩) (m+1) z)) (.slice (some ⟨g1,0,none⟩) (m+1) z) (m+1) (vs++cs) (xs++[x]) (fun i=>if i=m then V else Vs i) (fun i=>if i=m then Ls else LL i) j'∧w6.cell? ⟨p,0,none⟩=some v∧w6.frozen? ⟨p,0,none⟩=false:=by
 subst a4;obtain ⟨q1,q2,q3⟩:=h.lt;have Z:=h.le;have X:=D.le;have N:=D.ow.row.lt;have H:=h.ow.len;have a0:=D.ow.row.1;have E:∀ b,v.ownBlock=some b→B≤b:=fun b e=>(N b e).1
 have U:w6.heap[p]?=some (.cells #[v] 25 (0,0)):=(G.block p (by omega) (fun e=>by have:=E p e.symm;omega)).trans D.box;have I:∀ b,b≠p→(w6.setCell ⟨p,0,none⟩ (.slice (some ⟨g1,0,none⟩) (m+1) z)).heap[b]?=w6.heap[b]?:=fun b hb=>Below.heap_setCell _ _ _ _ (by show b≠p;exact hb)
 have Y:(w6.setCell ⟨p,0,none⟩ (.slice (some ⟨g1,0,none⟩) (m+1) z)).heap.size=w6.heap.size:=by simp
 have offN:∀ q,∀ x∈Ls q,v.ownBlock≠some x.1.block:=fun q y hy e=>by
  have h1:=a1 _ e;have h2:=E _ e;rcases F.us q y hy with ⟨a,b⟩ | ⟨n,a,b,c,d,e⟩
  · omega
  have:=(h.t.txt n c d).1;omega
 have kN:∀ q,∀ y∈Ls q,(w6.setCell ⟨p,0,none⟩ (.slice (some ⟨g1,0,none⟩) (m+1) z)).heap[y.1.block]?=w5.heap[y.1.block]?:=fun q y hy=>by
  rw [I _ ((F.us q).ne h.t (by omega) (by omega) y hy)];exact G.block _ ((F.us q).lt h.t (by omega) y hy) (fun e=>offN q y hy e.symm)
 have kO:∀ i q,∀ y∈LL i q,(w6.setCell ⟨p,0,none⟩ (.slice (some ⟨g1,0,none⟩) (m+1) z)).heap[y.1.block]?=w5.heap[y.1.block]?:=fun i q y hy=>by
  rw [I _ ((D.se.us i q).ne h.t (by omega) q3 y hy)];exact G.block _ ((D.se.us i q).lt h.t (by omega) y hy) (fun e=>D.se.off i q y hy e.symm)
 have offG:∀ b,b<w5.heap.size→v.ownBlock≠some b→(Value.slice (some ⟨g1,0,none⟩) (m+1) z).ownBlock≠some b:=fun b hb hv e=>by
  have e1:g1=b:=by simpa [Value.ownBlock] using e
  subst e1;rcases T with T | T
  · exact hv T
  omega
 have djN:∀ i q q',∀ x∈LL i q,∀ y∈Ls q',x.1.block≠y.1.block:=fun i q q' x hx y hy=>(hu i q).disj (F.us q') h.t (Nat.le_refl _) (Nat.le_refl _) (by omega) (by omega) x hx y hy
 refine ⟨⟨h.t,h.lt,?_,heap_setCell_same w6 p 0 _ _ _ U,?_,⟨by simp [H],ownsX_keep hn (fun b e=>I b (by have:=(hn.lt b e).1;omega)),fun i hi jj hj=>?_,fun i hi=>?_⟩,⟨fun i q=>?_,fun i q i' q' a3 x hx y hy=>?_,fun i q x hx=>?_,fun i q=>?_,fun i q x hx=>?_⟩,?_,by rw [Y];exact Nat.le_trans X G.size⟩,by simp [World.cell?,U],by simp [World.frozen?,U]⟩
 · exact (D.bt.grown G D.bt.size (fun k e=>by have:=E k e;omega)).set (.inl (by show w.heap.size≤p;omega)) _
 · rw [I _ (by omega)];exact (G.block _ (by omega) (fun e=>by have:=E _ e.symm;omega)).trans D.res
 · by_cases him:i=m
   · subst him;rw [if_pos rfl,List.getElem?_append_right (by omega),a0,show i*13+jj - i*13=jj from by omega];have e:(xs++[x]).getD i AX.zero=x:=by simp [List.getD,H]
     rw [e];simp
   rw [if_neg him,List.getElem?_append_left (by omega),h.ow.at' i (by omega) jj hj];have e:(xs++[x]).getD i AX.zero=xs.getD i AX.zero:=by simp [List.getD,List.getElem?_append_left (show i<xs.length by omega)]
   rw [e]
 · show PaX _ 6 (if i=m then V else Vs i) _ (if i=m then Ls else LL i)
   by_cases him:i=m
   · subst him;have e:(xs++[x]).getD i AX.zero=x:=by simp [List.getD,H]
     rw [e,if_pos rfl,if_pos rfl];exact a2.keep kN
   have e:(xs++[x]).getD i AX.zero=xs.getD i AX.zero:=by simp [List.getD,List.getElem?_append_left (show i<xs.length by omega)]
   rw [e,if_neg him,if_neg him];exact (D.ow.pa i (by omega)).keep (kO i)
 · show (((if i=m then Ls else LL i) q).map (·.1)).Nodup
   split
   · exact F.nd q
   exact h.se.nd i q
 · have hx:x∈(if i=m then Ls else LL i) q:=hx;have hy:y∈(if i'=m then Ls else LL i') q':=hy
   split at hx <;> split at hy
   · exact F.dj q q' (by omega) x hx y hy
   · exact fun e=>djN i' q' q y hy x hx e.symm
   · exact djN i q q' x hx y hy
   exact h.se.dj i q i' q' a3 x hx y hy
 · have hx:x∈(if i=m then Ls else LL i) q:=hx
   split at hx
   · exact (World.frozen?_of_block (w:=w5) (kN q x hx)).trans (F.fr q x hx)
   exact (World.frozen?_of_block (w:=w5) (kO i q x hx)).trans (D.se.fr i q x hx)
 · show Use ts gs 0 j' B _ ((if i=m then Ls else LL i) q)
   rw [Y]
   split
   · exact (F.us q).mono (Nat.zero_le _) (Nat.le_refl _) (by omega) G.size
   exact (D.se.us i q).mono (Nat.le_refl _) (Nat.le_refl _) (Nat.le_refl _) G.size
 · have hx:x∈(if i=m then Ls else LL i) q:=hx
   split at hx
   · exact offG _ ((F.us q).lt h.t (by omega) x hx) (offN q x hx)
   exact offG _ ((D.se.us i q).lt h.t (by omega) x hx) (D.se.off i q x hx)
 exact D.rdr.of ((I pb (by omega)).trans (G.block pb (by omega) (fun e=>by have:=E pb e.symm;omega)))
end
theorem new13X (w:World) (cs:Array Value) (t:Nat):∀ j v,cs.toList[j]?=some v→(w.alloc (.cells cs t)).cell? ((⟨w.heap.size,0,none⟩:Addr).add j)=some v:=by
 intro j v hv;have hb:(w.alloc (.cells cs t)).heap[w.heap.size]?=some (.cells cs t):=World.alloc_heap_new w _;have:((⟨w.heap.size,0,none⟩:Addr).add j)=⟨w.heap.size,j,none⟩:=by simp [Addr.add];exact fun h=>h.symm
 rw [this];unfold World.cell?;simp only [];rw [hb];simpa using hv
theorem one13X {cs:Array Value} (h:cs.all (·.oneCell')=true):∀ u∈cs.toList,u.oneCell'=true:=by
 intro u hu;rw [← Array.all_toList,List.all_eq_true] at h;exact h u hu
theorem infoX:(Tryz.prog.info? 39).map (fun i=>(i.zero,i.size,i.bytes))=some (some (.agg zeroX),13,264):=by kernel_rfl
end

section
open Go.RowKit
set_option linter.unusedVariables false
def lenOf (w:World) (b:Nat):Nat:=match w.cell? ⟨b,0,none⟩ with | some (.slice _ n _)=>n | _=>0
theorem lenOf_at {w:World} {pb g i:Nat} {ts:List Tok} {en:Int} (h:RdrAt w pb g i ts en):lenOf w pb=ts.length - i:=by
 obtain ⟨a,c,hb,_⟩:=h;unfold lenOf;rw [hb.cells.1]
def KsP (base pb g:Nat) (ts:List Tok) (gs:List (Nat × Nat)) (en:Int) (w:World) (r:ResK) (e:Ending) (w':World):Prop :=
 match r with
 | .bad q=>e=gaveUp q∧Bt pb w.heap.size w w'
 | .ok xs=>∃ (va:Option Addr) (vc:Nat) (vs:List Value) (Vs:Nat→XV) (LL:Nat→Nat→List (Addr × IntKind)),e=.returned (.agg #[.slice va xs.length vc])∧OwXs w.heap.size 6 w' (.slice va xs.length vc) xs.length vs xs Vs LL∧SeL xs.length ts gs ts.length w.heap.size w'.heap.size w' (.slice va xs.length vc) LL∧RdrAt w' pb g ts.length ts en∧Bt pb w.heap.size w w'
theorem KsP.fell {base pb g:Nat} {ts:List Tok} {gs:List (Nat × Nat)} {en:Int} {w:World} {r:ResK} {p q:Int} {w':World} (hb:Bt pb w.heap.size w w') (hr:r=.bad p) (hq:q=p):KsP base pb g ts gs en w r (.panicked [{ v:=.iface 82 (.int .i64 q),recovered:=false }]) w':=by
 subst hr;subst hq;exact ⟨rfl,hb⟩
theorem ownsX_low {base base' e size n:Nat} {w:World} {v:Value} {xs:List Value} (h:w.ownsRow base e size v n xs) (hb:base'≤base):w.ownsRow base' e size v n xs:=by
 obtain ⟨h1,h2⟩:=h;refine ⟨h1,?_⟩;rcases h2 with h2 | ⟨g,aQ,cur,hv,hg,r⟩
 · exact .inl h2
 exact .inr ⟨g,aQ,cur,hv,Nat.le_trans hb hg,r⟩
theorem KsX.fin {base pb g:Nat} {ts:List Tok} {gs:List (Nat × Nat)} {en:Int} {w:World} {p B:Nat} {wr:World} {va:Option Addr} {m vc:Nat} {vs:List Value} {xs:List AX} {Vs:Nat→XV} {LL:Nat→Nat→List (Addr × IntKind)} {j:Nat} (h:KsX base pb g ts gs en w p B wr (.slice va m vc) m vs xs Vs LL j) (hj:j=ts.length) {r:ResK} (hr:r=.ok xs) :
    KsP base pb g ts gs en w r (.returned (.agg #[.slice va m vc])) (wr.setCell ⟨w.heap.size,0,none⟩ (.slice va m vc))∧(wr.setCell ⟨w.heap.size,0,none⟩ (.slice va m vc)).cell? ⟨w.heap.size,0,none⟩=some (.slice va m vc):=by
 subst hr hj;obtain ⟨q1,q2,q3⟩:=h.lt;have ap:=h.ow.len;subst ap;have hn:∀ b,b≠w.heap.size→(wr.setCell ⟨w.heap.size,0,none⟩ (.slice va xs.length vc)).heap[b]?=wr.heap[b]?:=fun b hb=>Below.heap_setCell _ _ _ _ (by show b≠w.heap.size;exact hb)
 have aI:(wr.setCell ⟨w.heap.size,0,none⟩ (.slice va xs.length vc)).heap.size=wr.heap.size:=by simp
 have kO:∀ i q,∀ y∈LL i q,(wr.setCell ⟨w.heap.size,0,none⟩ (.slice va xs.length vc)).heap[y.1.block]?=wr.heap[y.1.block]?:=fun i q y hy=>hn _ ((h.se.us i q).ne h.t (by omega) (by omega) y hy)
 refine ⟨⟨va,vc,vs,Vs,LL,rfl,⟨rfl,ownsX_low (ownsX_keep h.ow.row (fun b e=>hn b (by have:=(h.ow.row.lt b e).1;omega))) (by omega),h.ow.at',fun i hi=>(h.ow.pa i hi).keep (kO i)⟩,⟨h.se.nd,h.se.dj,fun i q x hx=>(World.frozen?_of_block (w:=wr) (kO i q x hx)).trans (h.se.fr i q x hx),fun i q=>(h.se.us i q).mono (Nat.le_refl _) (Nat.le_refl _) (by omega) (by rw [aI];exact Nat.le_refl _),h.se.off⟩,h.rdr.of (hn pb (by omega)),h.bt.set (.inl (Nat.le_refl _)) _⟩,?_⟩;have:=heap_setCell_same wr w.heap.size 0 _ _ (.slice va xs.length vc) h.res;simp [World.cell?,this]
set_option maxRecDepth 100000 in
set_option maxHeartbeats 8000000 in
theorem axioms_any (base pb g:Nat) (ts:List Tok) (gs:List (Nat × Nat)) (en:Int) (w:World) (hR:RdrAt w pb g 0 ts en) (hT:TkM base pb w g ts gs) (aW:ts.length≤1500) :
    Calls Tryz.prog 24 #[.pointer (some ⟨pb,0,none⟩)] w (KsP base pb g ts gs en w (axsR ts en (ts.length+1) 0 [])):=by
 have aJ:=hR.lt;obtain ⟨W0,ab⟩:∃ W,Hid (W=(w.alloc (.cells #[.slice none 0 0] 25)).alloc (.cells #[.slice none 0 0] 25)):=⟨_,rfl⟩;obtain ⟨p,hp⟩:∃ p,p=w.heap.size+1:=⟨_,rfl⟩;have ai:Below w.heap.size w W0:=by rw [ab.out];exact ((Below.refl _ _).alloc (Nat.le_refl _) _).alloc (by simp) _
 have ae:W0.heap.size=w.heap.size+2:=by rw [ab.out];simp
 have av:W0.heap[w.heap.size]?=some (.cells #[.slice none 0 0] 25 (0,0)):=by rw [ab.out];exact (Below.heap_alloc _ _ _ (by simp)).trans (World.alloc_heap_new w _)
 have au:W0.heap[p]?=some (.cells #[.slice none 0 0] 25 (0,0)):=by
  have:=World.alloc_heap_new (w.alloc (.cells #[.slice none 0 0] 25)) (.cells #[.slice none 0 0] 25);rw [World.size_alloc] at this;rw [ab.out,hp];exact this
 have aV:Hid (KsX base pb g ts gs en w p (p+1) W0 (.slice none 0 0) 0 [] [] (fun _=>XV.zero) (fun _ _=>[]) 0) :=
  ⟨hT,⟨aJ,by omega,by omega⟩,Bt.of_below ai,au,av,⟨rfl,World.ownsRow_nil _ _ _ _,fun i hi=>by omega,fun i hi=>by omega⟩,SeL.nil _ _ _ _ _ _ _,hR.below ai,by omega⟩
 clear hR hT ai ae av au;obtain ⟨i0,aN,ae,aH,aG⟩:=info_parts infoX;go_enter Tryz.func24, Tryz.ntmps24;go_wp2_with fail;rw [← ab.out,← hp];clear hp;go_loopw [4] (fun _ wr=>∃ (v:Value) (m:Nat) (vs:List Value) (xs:List AX) (Vs:Nat→XV) (LL:Nat→Nat→List (Addr × IntKind)) (j f:Nat),KsX base pb g ts gs en w p (p+1) wr v m vs xs Vs LL j∧m≤j∧j≤ts.length∧ts.length<f+j∧axsR ts en (ts.length+1) 0 []=axsR ts en f j xs) (fun _ wr=>lenOf wr pb)
 case atStart=>exact ⟨_,0,[],[],_,_,0,ts.length+1,aV.out,Nat.le_refl _,Nat.zero_le _,by omega,rfl⟩
 case round =>
  obtain ⟨v,m,vs,xs,Vs,LL,j,f,a4,b5,ag,b8,ax⟩:=hrel
  rename World=>wo
  obtain ⟨va,vc,rfl⟩:=a4.fm;have HI:Hid (KsX base pb g ts gs en w p (p+1) wo (.slice va m vc) m vs xs Vs LL j):=a4;have al:Hid (axsR ts en (ts.length+1) 0 []=axsR ts en f j xs):=ax;have aL:Hid (lenOf wo pb=ts.length - j):=lenOf_at a4.rdr;clear a4 ax;obtain ⟨z0,aY⟩:=HI.out.cell;obtain ⟨b3,b2,ay,_,_,_⟩:=HI.out.rdr;obtain ⟨b0,b1⟩:=ay.cells;obtain ⟨n,hn⟩:∃ n,n=ts.length - j:=⟨_,rfl⟩;rw [← hn] at b0;have aD:Hid (n=ts.length - j):=hn;clear ay hn;by_cases hlt:j<ts.length
  · have aK:(0:Int)<(n:Int):=by have:=aD.out;omega
    obtain ⟨f',aO⟩:∃ f',f=f'+1:=⟨f - 1,by omega⟩;subst aO;cases z:axR ts en j with
    | bad a =>
     have HC:Hid (axsR ts en (ts.length+1) 0 []=.bad a):=by unfold Hid;rw [al.out];exact axsR_bad hlt z
     go_wp2_with fail;refine wp_region_any (by kernel_rfl) ?_;change wpAny _ _ _ _ _ _ _ (World.drew _)
     (refine wpAny_take (i:=0) (v:=.pointer (some ⟨p,0,none⟩)) rfl (by kernel_rfl) (by kernel_rfl) (by kernel_rfl) (fun _ _ _ h=>h) (Or.inl ⟨by rfl,fun w=>by first | rfl | go_simp⟩) ?_;try simp only [List.getElem_toArray,List.getElem_cons_zero,Act.put,List.setIfInBounds_toArray,List.set_cons_zero,List.set_cons_succ])
     (refine wpAny_take (i:=2) (v:=.pointer (some ⟨pb,0,none⟩)) rfl (by kernel_rfl) (by kernel_rfl) (by kernel_rfl) (fun _ _ _ h=>h) (Or.inl ⟨by rfl,fun w=>by first | rfl | go_simp⟩) ?_;try simp only [List.getElem_toArray,List.getElem_cons_succ,List.getElem_cons_zero,Act.put,List.setIfInBounds_toArray,List.set_cons_zero,List.set_cons_succ])
     refine wpAny_ready (rs:=[1,3]) (by kernel_rfl) (by simp) ?_;refine AllReady.cons rfl (fun K hK=>?_) ?_
     · go_simp;refine hK _ _ ?_;clear hK K;refine wpAny_ready (rs:=[3]) (by kernel_rfl) (by simp) ?_;refine AllReady.cons rfl (fun K hK=>?_) AllReady.nil;go_simp;refine (axiom_any base pb g j ts gs en wo.drew (HI.out.rdr.of rfl) (HI.out.tk.below (Below.refl _ _).drew) ag).mono ?_;rintro e w5 hP;rw [z] at hP;obtain ⟨a5,a9⟩:=hP;subst a9;have am:Hid (Bt pb w.heap.size w w5):=(HI.out.bt.trans (((Bt.refl _ _ _).drew.trans a5).mono HI.out.bt.size));simp only [gaveUp];clear a5;go_simp;exact ⟨rfl,KsP.fell am.out HC.out rfl⟩
     refine AllReady.cons rfl (fun K hK=>?_) AllReady.nil;go_simp;refine (axiom_any base pb g j ts gs en wo.drew (HI.out.rdr.of rfl) (HI.out.tk.below (Below.refl _ _).drew) ag).mono ?_;rintro e w5 hP;rw [z] at hP;obtain ⟨a5,a9⟩:=hP;subst a9;have am:Hid (Bt pb w.heap.size w w5):=(HI.out.bt.trans (((Bt.refl _ _ _).drew.trans a5).mono HI.out.bt.size));simp only [gaveUp];clear a5;go_simp;exact ⟨rfl,KsP.fell am.out HC.out rfl⟩
    | ok x j' =>
     have ah:=axR_end z;have aq:Hid (axsR ts en (ts.length+1) 0 []=axsR ts en f' j' (xs++[x])):=by unfold Hid;rw [al.out];exact axsR_step hlt z
     go_wp2_with fail;clear b0 b1
     first
     | go_region_law (first
      | (refine step_append_lies _ rfl (.tmp 11) (.tmp 14) 23 rfl (p+1) 39 i0 (.agg zeroX) 13 264 Tryz.underlying23 aN ae aH aG rfl (by decide) (.slice va m vc) m vs (by simp [Act.eval]) aj.out.ow.row ⟨w5.heap.size,0,none⟩ 1 1 [.int .i64 xk,.int .i64 ck,.slice a2 a0 a1,.slice Z X Y,.slice V T U,.int .i64 dk,.slice O J N,.slice I G H,.slice F D E,.slice ra rn rc,.slice sa sn sc,.slice aa an ac,.slice ba bn bc] (by simp [Act.eval]) rfl aU.out (one13X (cs:=#[.int .i64 xk,.int .i64 ck,.slice a2 a0 a1,.slice Z X Y,.slice V T U,.int .i64 dk,.slice O J N,.slice I G H,.slice F D E,.slice ra rn rc,.slice sa sn sc,.slice aa an ac,.slice ba bn bc]) (by simp [Value.oneCell'])) (by decide) (by unfold maxLen;omega) (by omega) aP _ rfl ?_;intro g1 aX w6 ad a6 az ao;obtain ⟨aB,y0,aF⟩:=HI.out.push (Nat.le_of_lt ah.1) ar.out rfl aT.out aS.out aj.out HI.out.se.us (fun b e=>(HI.out.ow.row.lt b e).2) (by rw [← aR.out];rfl) ad a6 (by rcases az with q | q;exact .inl q;exact .inr (by rw [q];exact Nat.le_refl _));have aE:Hid _:=aB;clear aB ad a6 az ao)
      | (go_simp;refine (axiom_any base pb g j ts gs en wo.drew (HI.out.rdr.of rfl) (HI.out.tk.below (Below.refl _ _).drew) ag).mono ?_;rintro e w5 hP;rw [z] at hP;obtain ⟨a5,V5,aC,a9,a7,a3,aA⟩:=hP;subst a9;obtain ⟨ck,a2,a0,a1,Z,X,Y,V,T,U,dk,O,J,N,I,G,H,F,D,E,ra,rn,rc,sa,sn,sc,aa,an,ac,ba,bn,bc,hV⟩:=a7.forms;subst hV;obtain ⟨xk,af⟩:∃ k,k=x.kind:=⟨_,rfl⟩;rw [← af];simp only [XV.arr];have aR:Hid (xk=x.kind):=af;have A:Bt pb wo.heap.size wo w5:=(Bt.refl _ _ _).drew.trans a5;have ak:Hid (KsX base pb g ts gs en w p (p+1) w5 (.slice va m vc) m vs xs Vs LL j'):=HI.out.next A (Nat.le_of_lt ah.1) aA;obtain ⟨y0,aF⟩:=ak.out.cell;have b4:p<w5.heap.size:=Nat.lt_of_lt_of_le (Nat.lt_succ_self p) ak.out.le;have a8:Below w5.heap.size w5 (w5.alloc (.cells #[.int .i64 xk,.int .i64 ck,.slice a2 a0 a1,.slice Z X Y,.slice V T U,.int .i64 dk,.slice O J N,.slice I G H,.slice F D E,.slice ra rn rc,.slice sa sn sc,.slice aa an ac,.slice ba bn bc] 39)):=(Below.refl _ _).alloc (Nat.le_refl _) _;have aj:Hid (KsX base pb g ts gs en w p (p+1) (w5.alloc (.cells #[.int .i64 xk,.int .i64 ck,.slice a2 a0 a1,.slice Z X Y,.slice V T U,.int .i64 dk,.slice O J N,.slice I G H,.slice F D E,.slice ra rn rc,.slice sa sn sc,.slice aa an ac,.slice ba bn bc] 39)) (.slice va m vc) m vs xs Vs LL j'):=ak.out.below a8;have aT:Hid (PaX (w5.alloc (.cells #[.int .i64 xk,.int .i64 ck,.slice a2 a0 a1,.slice Z X Y,.slice V T U,.int .i64 dk,.slice O J N,.slice I G H,.slice F D E,.slice ra rn rc,.slice sa sn sc,.slice aa an ac,.slice ba bn bc] 39)) 6 ⟨.int .i64 ck,.slice a2 a0 a1,.slice Z X Y,.slice V T U,.int .i64 dk,.slice O J N,.slice I G H,.slice F D E,.slice ra rn rc,.slice sa sn sc,.slice aa an ac,.slice ba bn bc⟩ x aC):=a7.keep (fun q y hy=>a8.block _ ((a3.us q).lt HI.out.t (by have:=HI.out.bt.size;have:=A.size;have:=HI.out.lt;omega) y hy));have aS:Hid (Se6 ts gs j j' wo.heap.size (w5.alloc (.cells #[.int .i64 xk,.int .i64 ck,.slice a2 a0 a1,.slice Z X Y,.slice V T U,.int .i64 dk,.slice O J N,.slice I G H,.slice F D E,.slice ra rn rc,.slice sa sn sc,.slice aa an ac,.slice ba bn bc] 39)).heap.size (w5.alloc (.cells #[.int .i64 xk,.int .i64 ck,.slice a2 a0 a1,.slice Z X Y,.slice V T U,.int .i64 dk,.slice O J N,.slice I G H,.slice F D E,.slice ra rn rc,.slice sa sn sc,.slice aa an ac,.slice ba bn bc] 39)) aC):=Se6.mono (Se6.keep a3 (fun q y hy=>a8.block _ ((a3.us q).lt HI.out.t (by have:=HI.out.bt.size;have:=A.size;have:=HI.out.lt;omega) y hy))) (Nat.le_refl _) (Nat.le_refl _) (Nat.le_refl _) a8.size;have ar:Hid (Bt pb wo.heap.size wo (w5.alloc (.cells #[.int .i64 xk,.int .i64 ck,.slice a2 a0 a1,.slice Z X Y,.slice V T U,.int .i64 dk,.slice O J N,.slice I G H,.slice F D E,.slice ra rn rc,.slice sa sn sc,.slice aa an ac,.slice ba bn bc] 39))):=A.trans (Bt.of_below (a8.mono A.size));have aP:p+1≤(w5.alloc (.cells #[.int .i64 xk,.int .i64 ck,.slice a2 a0 a1,.slice Z X Y,.slice V T U,.int .i64 dk,.slice O J N,.slice I G H,.slice F D E,.slice ra rn rc,.slice sa sn sc,.slice aa an ac,.slice ba bn bc] 39)).heap.size:=aj.out.le;have aU:Hid _:=new13X w5 #[.int .i64 xk,.int .i64 ck,.slice a2 a0 a1,.slice Z X Y,.slice V T U,.int .i64 dk,.slice O J N,.slice I G H,.slice F D E,.slice ra rn rc,.slice sa sn sc,.slice aa an ac,.slice ba bn bc] 39;clear a5 a7 a3 aA af A a8))
     | fail
     all_goals
      have b7:=lenOf_at aE.out.rdr;have b6:=aL.out;go_wp2_with fail;go_roundw
      case rel=>exact ⟨_,m+1,_,_,_,_,j',f',aE.out,by omega,ah.2,by omega,aq.out⟩
      case measure=>omega
  have aK:¬ (0:Int)<(n:Int):=by have:=aD.out;omega
  have aM:j=ts.length:=by omega
  have HE:Hid (axsR ts en (ts.length+1) 0 []=.ok xs):=by unfold Hid;rw [al.out];exact axsR_end (by omega)
  obtain ⟨hF,y0⟩:=HI.out.fin aM HE.out;have HF:Hid _:=hF;have u0:wo.cell? ⟨w.heap.size,0,none⟩=some (.slice none 0 0):=by have:=HI.out.res;simp [World.cell?,this]
  have aZ:wo.frozen? ⟨w.heap.size,0,none⟩=false:=by have:=HI.out.res;simp [World.frozen?,this]
  clear hF;go_wp2;refine bodyPost_ret (v:=.agg #[.slice va m vc]) (by simp [results, Tryz.results24,go_sem,y0]) rfl ?_;exact HF.out
end

end Go.Proofs.YtocpeiaolofodaaGreat
