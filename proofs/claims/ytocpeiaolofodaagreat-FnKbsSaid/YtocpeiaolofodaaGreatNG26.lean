/- Several texts in one: KrA, KrI5, BentWrap. -/
import Derived.Test.YtocpeiaolofodaaGreatNG23
import Derived.Test.YtocpeiaolofodaaGreatNG20
import Derived.Test.YtocpeiaolofodaaGreatNG14
import Derived.Test.YtocpeiaolofodaaGreatNG25
import Derived.Test.YtocpeiaolofodaaGreatNG24
namespace Go.Proofs.YtocpeiaolofodaaGreat

section
open Go.RowKit
set_option linter.unusedVariables false
structure OwnKb (base:Nat) (w:World) (v:Value) (vs:List Value) (xs:List AX) (Vs:Nat→XV) (LL:Nat→Nat→List (Addr × IntKind)):Prop where
 ow:OwXs base 6 w v xs.length vs xs Vs LL
 nd:∀ i p,((LL i p).map (·.1)).Nodup
 dj:∀ i p i' p',(i≠i'∨p≠p')→∀ x∈LL i p,∀ y∈LL i' p',x.1.block≠y.1.block
 fr:∀ i p,∀ x∈LL i p,w.frozen? x.1=false
 off:∀ i p,∀ x∈LL i p,v.ownBlock≠some x.1.block
 bl:∀ i p,∀ x∈LL i p,base≤x.1.block∧x.1.block<w.heap.size
theorem ownKb_nil (base:Nat) (w:World):OwnKb base w (.slice none 0 0) [] [] (fun _=>XV.zero) (fun _ _=>[]) :=
 ⟨⟨rfl,World.ownsRow_nil _ _ _ _,fun i hi=>by simp at hi,fun i hi=>by simp at hi⟩,fun _ _=>by simp,fun _ _ _ _ _ x hx=>by simp at hx,fun _ _ x hx=>by simp at hx,fun _ _ x hx=>by simp at hx,fun _ _ x hx=>by simp at hx⟩
section
variable {base:Nat} {w w':World} {v:Value} {vs:List Value} {xs:List AX} {Vs:Nat→XV} {LL:Nat→Nat→List (Addr × IntKind)}
theorem OwnKb.keep (h:OwnKb base w v vs xs Vs LL) (hk:∀ b,base≤b→b<w.heap.size→w'.heap[b]?=w.heap[b]?) (hs:w.heap.size≤w'.heap.size):OwnKb base w' v vs xs Vs LL:=by
 have D:∀ i p,∀ x∈LL i p,w'.heap[x.1.block]?=w.heap[x.1.block]?:=fun i p x hx=>hk _ (h.bl i p x hx).1 (h.bl i p x hx).2
 exact ⟨⟨h.ow.len,ownsX_keep h.ow.row (fun b e=>hk b (h.ow.row.lt b e).1 (h.ow.row.lt b e).2),h.ow.at',fun i hi=>(h.ow.pa i hi).keep (D i)⟩,h.nd,h.dj,fun i p x hx=>(World.frozen?_of_block (w:=w) (D i p x hx)).trans (h.fr i p x hx),h.off,fun i p x hx=>⟨(h.bl i p x hx).1,Nat.lt_of_lt_of_le (h.bl i p x hx).2 hs⟩⟩
theorem OwnKb.below (h:OwnKb base w v vs xs Vs LL) (hb:Below w.heap.size w w'):OwnKb base w' v vs xs Vs LL:=h.keep (fun b _ h2=>hb.block b h2) hb.size
theorem OwnKb.mono {base':Nat} (h:OwnKb base w v vs xs Vs LL) (hb:base'≤base):OwnKb base' w v vs xs Vs LL :=
 ⟨⟨h.ow.len,ownsX_low h.ow.row hb,h.ow.at',h.ow.pa⟩,h.nd,h.dj,h.fr,h.off,fun i p x hx=>⟨Nat.le_trans hb (h.bl i p x hx).1,(h.bl i p x hx).2⟩⟩
theorem OwnKb.form (h:OwnKb base w v vs xs Vs LL):∃ va vc,v=.slice va xs.length vc:=by
 rcases h.ow.row.2 with ⟨e,e0⟩ | ⟨g,c,_,e,_⟩
 · exact ⟨none,0,by rw [e,e0]⟩
 exact ⟨_,c,e⟩
theorem OwSk.rd {v:Value} {zs:List Int} {L:List (Addr × IntKind)} {lo hi:Nat} (h:OwSk w v zs L) (hb:∀ x∈L,lo≤x.1.block∧x.1.block<hi):∃ a c,v=.slice a zs.length c∧Rd lo hi w a zs.length c zs:=by
 obtain ⟨a,c,b,h1,h2,rfl⟩:=h;exact ⟨a,c,h1,h2.rd hb⟩
theorem OwnKb.rd (h:OwnKb base w v vs xs Vs LL):∃ va vc,v=.slice va xs.length vc∧RdK base w.heap.size w 6 va xs.length vc xs:=by
 have A:=h.ow.row;rcases A.2 with ⟨e1,e2⟩ | ⟨g,T,cur,e1,hg,hb,O,N,_⟩
 · exact ⟨none,0,by rw [e1,e2],⟨rfl,⟨by omega,by omega⟩,.inl e2⟩⟩
 refine ⟨_,T,e1,⟨rfl,⟨O,by unfold maxLen at N;omega⟩,.inr ⟨g,0,rfl,hg,(Array.getElem?_eq_some_iff.1 hb).1,fun i hi=>?_⟩⟩⟩;have z:=h.ow.pa i hi;have H:=z.c.rd (h.bl i 0);have G:=z.d.rd (h.bl i 1);obtain ⟨ra,rc,er,F⟩:=z.r.rd (h.bl i 2);obtain ⟨sa,sc,es,E⟩:=z.s.rd (h.bl i 3);obtain ⟨aa,ac,ea,J⟩:=z.a.rd (h.bl i 4);obtain ⟨ba,bc,eb,I⟩:=z.b.rd (h.bl i 5);subst e1
 have cell:∀ j,j<13→∀ u,((Vs i).arr (xs.getD i AX.zero).kind)[j]?=some u→w.cell? ⟨g,0+i*13+j,none⟩=some u:=by
  intro j hj u hu;rw [← hu,← h.ow.at' i hi j hj,Nat.zero_add];exact A.cellAt (i*13+j) (by omega)
 exact ⟨(Vs i).c0,(Vs i).c1,(Vs i).c2,(Vs i).c3,(Vs i).d0,(Vs i).d1,(Vs i).d2,(Vs i).d3,ra,_,rc,sa,_,sc,aa,_,ac,ba,_,bc,cell 0 (by omega) _ rfl,cell 1 (by omega) _ rfl,cell 2 (by omega) _ rfl,cell 3 (by omega) _ rfl,cell 4 (by omega) _ rfl,cell 5 (by omega) _ rfl,cell 6 (by omega) _ rfl,cell 7 (by omega) _ rfl,cell 8 (by omega) _ rfl,cell 9 (by omega) _ (by rw [← er];rfl),cell 10 (by omega) _ (by rw [← es];rfl),cell 11 (by omega) _ (by rw [← ea];rfl),cell 12 (by omega) _ (by rw [← eb];rfl),⟨H,G,F,E,J,I⟩⟩
end
def AnsK (w:World) (r:List AX × Int) (e:Ending) (w':World):Prop:=∃ v vs Vs LL,e=.returned (.tuple #[.agg #[v],.int .i64 r.2])∧OwnKb w.heap.size w' v vs r.1 Vs LL∧Below w.heap.size w w'
theorem AnsK.mk {w w':World} {r:List AX × Int} {xs:List AX} {p:Int} {v:Value} {vs:List Value} {Vs:Nat→XV} {LL:Nat→Nat→List (Addr × IntKind)} (hr:r=(xs,p)) (hO:OwnKb w.heap.size w' v vs xs Vs LL) (hB:Below w.heap.size w w'):AnsK w r (.returned (.tuple #[.agg #[v],.int .i64 p])) w':=by
 subst hr;exact ⟨v,vs,Vs,LL,rfl,hO,hB⟩
def BoxKv (W:World) (b:Nat) (v:Value):Prop:=W.heap[b]?=some (.cells #[v] 25 (0,0))
theorem BoxKv.cell {W:World} {b:Nat} {v:Value} (h:BoxKv W b v):W.cell? ⟨b,0,none⟩=some v:=by
 unfold BoxKv at h;simp [World.cell?,h]
theorem BoxKv.frz {W:World} {b:Nat} {v:Value} (h:BoxKv W b v) (o:Nat):W.frozen? ⟨b,o,none⟩=false:=by
 unfold BoxKv at h;simp [World.frozen?,h]
theorem BoxKv.lt {W:World} {b:Nat} {v:Value} (h:BoxKv W b v):b<W.heap.size:=(Array.getElem?_eq_some_iff.1 h).1
theorem BoxKv.set {W:World} {b:Nat} {v:Value} (h:BoxKv W b v) (x:Value):BoxKv (W.setCell ⟨b,0,none⟩ x) b x:=by
 unfold BoxKv;rw [heap_setCell_same W b 0 _ _ _ h];rfl
theorem BoxKv.of {W W':World} {b:Nat} {v:Value} (h:BoxKv W b v) (e:W'.heap[b]?=W.heap[b]?):BoxKv W' b v:=e.trans h
theorem BoxKv.new (W:World) (v:Value):BoxKv (W.alloc (.cells #[v] 25)) W.heap.size v:=World.alloc_heap_new W _
end

section
open Go.RowKit
set_option linter.unusedVariables false
theorem caughtK_mem {vb bb:Nat} (Y:vb<bb) {v:Value} {z:Int} {w:World} (hv:BoxKv w vb v) (hb:BoxI w bb z) (x:Value) (p:Int) (o:Obj) :
    Below vb w (((w.setCell ⟨vb,0,none⟩ x).setCell ⟨bb,0,none⟩ (.int .i64 p)).alloc o)∧BoxKv (((w.setCell ⟨vb,0,none⟩ x).setCell ⟨bb,0,none⟩ (.int .i64 p)).alloc o) vb x∧BoxI (((w.setCell ⟨vb,0,none⟩ x).setCell ⟨bb,0,none⟩ (.int .i64 p)).alloc o) bb p:=by
 have aG:=hv.lt;have aL:=hb.lt;have h2:BoxKv ((w.setCell ⟨vb,0,none⟩ x).setCell ⟨bb,0,none⟩ (.int .i64 p)) vb x:=(hv.set x).of (heap_set1 _ _ _ _ (by omega));have h4:BoxI ((w.setCell ⟨vb,0,none⟩ x).setCell ⟨bb,0,none⟩ (.int .i64 p)) bb p:=(hb.of (heap_set1 _ _ _ _ (by omega))).set p;exact ⟨((((Below.refl vb w).setCell (Nat.le_refl _) _).setCell (Nat.le_of_lt Y) _).alloc (by simp;omega) _),h2.of (Below.heap_alloc _ _ _ h2.lt),h4.of (Below.heap_alloc _ _ _ h4.lt)⟩
theorem setK2_mem {vb bb:Nat} (Y:vb<bb) {v:Value} {z:Int} {W:World} (hv:BoxKv W vb v) (hb:BoxI W bb z) (x:Value) (p:Int) :
    Below vb W ((W.setCell ⟨vb,0,none⟩ x).setCell ⟨bb,0,none⟩ (.int .i64 p))∧BoxKv ((W.setCell ⟨vb,0,none⟩ x).setCell ⟨bb,0,none⟩ (.int .i64 p)) vb x∧BoxI ((W.setCell ⟨vb,0,none⟩ x).setCell ⟨bb,0,none⟩ (.int .i64 p)) bb p :=
 ⟨((Below.refl vb W).setCell (Nat.le_refl _) _).setCell (Nat.le_of_lt Y) _,(hv.set x).of (heap_set1 _ _ _ _ (by omega)),(hb.of (heap_set1 _ _ _ _ (by omega))).set p⟩
set_option maxRecDepth 100000 in
set_option maxHeartbeats 1000000 in
theorem catchK_gaveUp (vb bb:Nat) (Y:vb<bb) (v:Value) (z p:Int) (older:List PanicEntry) (w:World) (hv:BoxKv w vb v) (hb:BoxI w bb z) :
    CallsD Tryz.prog 50 #[.pointer (some ⟨vb,0,none⟩),.pointer (some ⟨bb,0,none⟩)] (.panicking ({ v:=.iface 82 (.int .i64 p),recovered:=false } :: older)) w fun e u' w' =>
     e=.returned (.tuple #[])∧u'=.panicking ({ v:=.iface 82 (.int .i64 p),recovered:=true } :: older)∧Below vb w w'∧BoxKv w' vb (.slice none 0 0)∧BoxI w' bb p:=by
 have ha:=assert_yes p;refine callsD_of_wpS Tryz.func50 rfl fun c₀ cs hu=>?_
 apply wpS_seq;apply wpS_region;simp [wpOpsS,go_sem,recoverD,hu, Tryz.ntmps50,Exit.thenS,ha];have c0:=hv.cell;have f0:=hv.frz 0;have b0:=hb.cell;have bf:=hb.frz 0;have aG:=hv.lt;have aL:=hb.lt;refine wpS_of_wp ?_;simp only [Array.replicate_succ,Array.replicate_zero,List.push_toArray,List.append_toArray,List.nil_append,List.cons_append,List.setIfInBounds_toArray,List.set_cons_zero,List.set_cons_succ];go_wp2;have HF:=caughtK_mem Y hv hb (.slice none 0 0) p (.cells #[.slice none 0 0] 25);simp only [bodyPostS,results, Tryz.results50];simp;exact HF
set_option maxRecDepth 100000 in
set_option maxHeartbeats 1000000 in
theorem catchK_none (vb bb:Nat) (w:World) :
    CallsD Tryz.prog 50 #[.pointer (some ⟨vb,0,none⟩),.pointer (some ⟨bb,0,none⟩)] .returning w fun e u' w'=>e=.returned (.tuple #[])∧u'=.returning∧w'=w:=by
 have ha:=assert_no;refine callsD_of_wpS Tryz.func50 rfl fun c₀ cs hu=>?_
 apply wpS_seq;apply wpS_region;simp [wpOpsS,go_sem,recoverD,hu, Tryz.ntmps50,Exit.thenS,ha];refine wpS_of_wp ?_;simp only [Array.replicate_succ,Array.replicate_zero,List.push_toArray,List.append_toArray,List.nil_append,List.cons_append,List.setIfInBounds_toArray,List.set_cons_zero,List.set_cons_succ];go_wp2;cases c₀;simp only [bodyPostS,results, Tryz.results50];simp_all
theorem KsP.lift {base pb g:Nat} {ts:List Tok} {gs:List (Nat × Nat)} {w W0 w1:World} {n:Nat} {va:Option Addr} {vc:Nat} {vs:List Value} {xs:List AX} {Vs:Nat→XV} {LL:Nat→Nat→List (Addr × IntKind)} (hT:TkM base pb w g ts gs) (ad:pb<w.heap.size) (h0:w.heap.size<W0.heap.size) (h1:W0.heap.size≤w1.heap.size)
    (hO:OwXs W0.heap.size 6 w1 (.slice va n vc) n vs xs Vs LL) (hS:SeL n ts gs ts.length W0.heap.size w1.heap.size w1 (.slice va n vc) LL):OwXs w.heap.size 6 (w1.setCell ⟨w.heap.size,0,none⟩ (.slice va n vc)) (.slice va n vc) n vs xs Vs LL∧SeL n ts gs ts.length w.heap.size (w1.setCell ⟨w.heap.size,0,none⟩ (.slice va n vc)).heap.size (w1.setCell ⟨w.heap.size,0,none⟩ (.slice va n vc)) (.slice va n vc) LL:=by
 have hn:∀ b,b≠w.heap.size→(w1.setCell ⟨w.heap.size,0,none⟩ (.slice va n vc)).heap[b]?=w1.heap[b]?:=fun b hb=>heap_set1 _ _ _ _ hb
 have kO:∀ i q,∀ y∈LL i q,(w1.setCell ⟨w.heap.size,0,none⟩ (.slice va n vc)).heap[y.1.block]?=w1.heap[y.1.block]?:=fun i q y hy=>hn _ ((hS.us i q).ne hT (by omega) h0 y hy)
 exact ⟨⟨hO.len,ownsX_low (ownsX_keep hO.row (fun b e=>hn b (by have:=(hO.row.lt b e).1;omega))) (Nat.le_of_lt h0),hO.at',fun i hi=>(hO.pa i hi).keep (kO i)⟩,⟨hS.nd,hS.dj,fun i q x hx=>(World.frozen?_of_block (w:=w1) (kO i q x hx)).trans (hS.fr i q x hx),fun i q=>(hS.us i q).mono (Nat.le_refl _) (Nat.le_refl _) (Nat.le_of_lt h0) (by simp),hS.off⟩⟩
set_option maxRecDepth 100000 in
set_option maxHeartbeats 2000000 in
theorem readK1_any (base pb g:Nat) (ts:List Tok) (gs:List (Nat × Nat)) (en:Int) (w:World) (hR:RdrAt w pb g 0 ts en) (hT:TkM base pb w g ts gs) (O:ts.length≤1500) :
    Calls Tryz.prog 23 #[.pointer (some ⟨pb,0,none⟩)] w (KsP base pb g ts gs en w (axsR ts en (ts.length+1) 0 [])):=by
 have ad:=hR.lt;have aP:Hid (TkM base pb w g ts gs):=hT;obtain ⟨W0,a1⟩:∃ W,Hid (W=w.alloc (.cells #[.slice none 0 0] 25)):=⟨_,rfl⟩;have H:Below w.heap.size w W0:=by rw [a1.out];exact (Below.refl _ _).alloc (Nat.le_refl _) _
 have N:Hid (Below w.heap.size w W0):=H;have ag:Hid (BoxKv W0 w.heap.size (.slice none 0 0)):=by unfold Hid;rw [a1.out];exact BoxKv.new w _
 have ak:Hid (RdrAt W0 pb g 0 ts en):=hR.below H;have aQ:Hid (TkM base pb W0 g ts gs):=hT.below (H.mono (Nat.le_of_lt ad));have ac:w.heap.size<W0.heap.size:=ag.out.lt;clear H hR hT;go_enter Tryz.func23, Tryz.ntmps23;go_wp2_with fail;rw [← a1.out];refine (axioms_any base pb g ts gs en W0 ak.out aQ.out O).mono ?_;rintro e w1 hP;cases A:axsR ts en (ts.length+1) 0 [] with
 | bad q =>
  rw [A] at hP;obtain ⟨he,D⟩:=hP;subst he;have an:Hid (Bt pb w.heap.size w w1):=(Bt.of_below N.out).trans (D.mono N.out.size);clear D;simp only [gaveUp];go_wp2;exact ⟨rfl,KsP.fell an.out rfl rfl⟩
 | ok xs =>
  rw [A] at hP;obtain ⟨va,vc,vs,Vs,LL,he,hO,hS,ax,D⟩:=hP;subst he;have an:Hid (Bt pb w.heap.size w w1):=(Bt.of_below N.out).trans (D.mono N.out.size);have af:Hid (BoxKv w1 w.heap.size (.slice none 0 0)):=ag.out.of (D.block _ ag.out.lt (by omega));obtain ⟨n,hn⟩:∃ n,n=xs.length:=⟨_,rfl⟩;rw [← hn] at hO hS ⊢;have hl:=KsP.lift aP.out ad ac D.size hO hS
  have HF:Hid (KsP base pb g ts gs en w (axsR ts en (ts.length+1) 0 []) (.returned (.agg #[.slice va n vc])) (w1.setCell ⟨w.heap.size,0,none⟩ (.slice va n vc))):=by
   have h2:=an.out.set (p:=⟨w.heap.size,0,none⟩) (.inl (Nat.le_refl _)) (.slice va n vc);have h3:RdrAt (w1.setCell ⟨w.heap.size,0,none⟩ (.slice va n vc)) pb g ts.length ts en:=ax.of (heap_set1 _ _ _ _ (by omega));unfold Hid;subst hn;rw [A];exact ⟨va,vc,vs,Vs,LL,rfl,hl.1,hl.2,h3,h2⟩
  have z0:=af.out.cell;have aY:=af.out.frz 0;have y0:(w1.setCell ⟨w.heap.size,0,none⟩ (.slice va n vc)).cell? ⟨w.heap.size,0,none⟩=some (.slice va n vc):=(af.out.set _).cell;clear hO hS ax D hl hn;go_wp2;refine bodyPost_ret (v:=.agg #[.slice va n vc]) (by simp [results, Tryz.results23,go_sem,y0]) rfl ?_;exact HF.out
theorem implTok_atA (a:Option Addr) (n F:Nat) (zs:List Int) (ts:List Tok) (p:Int) (ht:toks zs=(ts,p)) (w:World) (h:Rd 0 w.heap.size w a n F zs) :
    Calls Tryz.prog 49 #[.slice a n F] w fun e w'=>∃ a' cap' gs,e=.returned (.tuple #[.slice a' ts.length cap',.int .i64 p])∧OwnT w.heap.size w' (.slice a' ts.length cap') ts gs∧RdT w.heap.size w'.heap.size w' a' ts.length cap' ts∧Below w.heap.size w w':=by
 refine (implTok_all a n F zs w h (Nat.le_refl _)).mono fun e w' ⟨v,gs,he,hO,hb⟩=>?_
 rw [ht] at he hO;obtain ⟨a',cap',rfl,hr⟩:=hO.rd;exact ⟨a',cap',gs,he,hO,hr,hb⟩
set_option maxRecDepth 100000 in
set_option maxHeartbeats 2000000 in
theorem readWholeK_any (a:Option Addr) (n F:Nat) (zs:List Int) (w:World) (h:Rd 0 w.heap.size w a n F zs) :
    Calls Tryz.prog 22 #[.slice a n F,.func (.func 23) #[] #[]] w (AnsK w (wholeK zs)):=by
 have b3:∀ (fn:Fn) (first F:Array Value) (w:World),(Instr.makeFunc fn first F).run Tryz.prog w=.ok (.func fn first F) w:=fun _ _ _ _=>rfl
 have HL:Hid (zs.length=n):=h.len;obtain ⟨ts,bad,ab⟩:∃ ts p,toks zs=(ts,p):=⟨_,_,rfl⟩;have HT:Hid (toks zs=(ts,bad)):=ab;have O:ts.length≤1500:=by have:=(toks_bound zs).1;rw [ab] at this;exact this
 obtain ⟨W0,U⟩:∃ W0,W0=(w.alloc (.cells #[.slice none 0 0] 25)).alloc (.cells #[.int .i64 0] 3):=⟨_,rfl⟩;have a1:Hid (W0=(w.alloc (.cells #[.slice none 0 0] 25)).alloc (.cells #[.int .i64 0] 3)):=U;have H:Below w.heap.size w W0:=by rw [U];exact ((Below.refl _ _).alloc (Nat.le_refl _) _).alloc (by simp) _
 have N:Hid (Below w.heap.size w W0):=H;have aA:Hid (W0.heap.size=w.heap.size+2):=by unfold Hid;rw [U];simp
 have az:Hid (BoxKv W0 w.heap.size (.slice none 0 0)):=by
  unfold Hid;rw [U];exact (BoxKv.new w _).of (Below.heap_alloc _ _ _ (by simp))
 have aC:Hid (BoxI W0 (w.heap.size+1) 0):=by
  unfold Hid;rw [U];have:=BoxI.new (w.alloc (.cells #[.slice none 0 0] 25)) 0
  rwa [World.size_alloc] at this
 have ak:Hid (Rd 0 W0.heap.size W0 a n F zs):=(h.below H (Nat.le_refl _)).mono (Nat.le_refl _) H.size;clear h ab H U;go_enter_defers Tryz.func22, Tryz.ntmps22;go_wp2_with fail;rw [← a1.out];refine (implTok_atA a n F zs ts bad HT.out W0 ak.out).mono ?_;rintro e w1 ⟨aI,cI,gs,rfl,hO,_,D⟩;have HO:Hid (OwnT W0.heap.size w1 (.slice aI ts.length cI) ts gs):=hO;have aE:Hid (Below w.heap.size w w1):=N.out.trans (D.mono N.out.size);have ay:Hid (BoxKv w1 w.heap.size (.slice none 0 0)):=az.out.of (D.block _ az.out.lt);have a3:Hid (BoxI w1 (w.heap.size+1) 0):=aC.out.of (D.block _ aC.out.lt);have b2:w.heap.size+1<w1.heap.size:=a3.out.lt;have i0:=a3.out.cell;have a5:=a3.out.frz 0;have a4:w.heap.size≠w.heap.size+1:=by omega
 clear hO D;by_cases hbad:bad=-1
 · subst hbad;obtain ⟨Wb,E⟩:∃ W,W=w1.setCell ⟨w.heap.size+1,0,none⟩ (.int .i64 (-1)):=⟨_,rfl⟩;have ah:Hid (Wb=w1.setCell ⟨w.heap.size+1,0,none⟩ (.int .i64 (-1))):=E;have X:Hid (BoxKv Wb w.heap.size (.slice none 0 0)):=by unfold Hid;rw [E];exact ay.out.of (heap_set1 _ _ _ _ a4)
   have J:Hid (BoxI Wb (w.heap.size+1) (-1)):=by unfold Hid;rw [E];exact a3.out.set (-1)
   have ao:Hid (Below w.heap.size w Wb):=by unfold Hid;rw [E];exact aE.out.setCell (by show w.heap.size≤w.heap.size+1;omega) _
   have aT:Hid (OwnT W0.heap.size Wb (.slice aI ts.length cI) ts gs):=by
    unfold Hid;rw [E];have h:=HO.out;have ho:w.heap.size+1<W0.heap.size:=by have:=aA.out;omega
    exact ⟨h.len,ownsRow_setCell_below h.row (a:=⟨w.heap.size+1,0,none⟩) ho _,fun j hj ht=>⟨(h.txt j hj ht).1,(h.txt j hj ht).2.1.setOf (a:=⟨w.heap.size+1,0,none⟩) (by have:=(h.txt j hj ht).1;show _≠w.heap.size+1;omega),(h.txt j hj ht).2.2⟩,h.byte,h.dist⟩
   have aH:w.heap.size+1<Wb.heap.size:=J.out.lt;obtain ⟨a',c',g,hv,ha,aK,aJ,av⟩:=aT.out.tkm (pb:=Wb.heap.size) (Nat.le_refl _);simp only [Value.slice.injEq,true_and] at hv;obtain ⟨rfl,rfl⟩:=hv;obtain ⟨W2,a7⟩:∃ W,W=Wb.alloc (.cells #[.slice aI ts.length cI,.int .i64 n] 85):=⟨_,rfl⟩;have aO:Hid (W2=Wb.alloc (.cells #[.slice aI ts.length cI,.int .i64 n] 85)):=a7;have Z:Below Wb.heap.size Wb W2:=by rw [a7];exact (Below.refl _ _).alloc (Nat.le_refl _) _
   have aB:Hid (RdrAt W2 Wb.heap.size g 0 ts n):=by
    refine ⟨aI,cI,?_,?_,aK,aJ⟩
    · rw [a7];exact BoxR.new Wb _ _
    rcases ha with h | h
    · exact .inl h
    exact .inr (by rw [h])
   have aj:Hid (TkM W0.heap.size Wb.heap.size W2 g ts gs):=av.below Z;have a8:Hid (BoxKv W2 w.heap.size (.slice none 0 0)):=X.out.of (Z.block _ X.out.lt);have a9:Hid (BoxI W2 (w.heap.size+1) (-1)):=J.out.of (Z.block _ aH);have aD:Hid (Below w.heap.size w W2):=ao.out.trans (Z.mono (by omega));have aZ:Wb.heap.size<W2.heap.size:=aB.out.lt;clear E a7 Z av ha;go_upto_region 2 with fail;rw [← ah.out];clear i0 a5;have i0:=J.out.cell;go_wp2_with fail;rw [← aO.out];clear i0;refine (readK1_any W0.heap.size Wb.heap.size g ts gs n W2 aB.out aj.out O).mono ?_;rintro e w3 hP;cases A:axsR ts (n:Nat) (ts.length+1) 0 [] with
   | bad p =>
    rw [A] at hP;obtain ⟨he,G⟩:=hP;subst he;have a0:Hid (wholeK zs=([],p)):=wholeK_bad HT.out HL.out A;have a2:Hid (BoxKv w3 w.heap.size (.slice none 0 0)):=a8.out.of (G.block _ a8.out.lt (by omega));have am:Hid (BoxI w3 (w.heap.size+1) (-1)):=a9.out.of (G.block _ a9.out.lt (by omega));have ap:Hid (Below w.heap.size w w3):=aD.out.trans (G.below (by omega) (by omega));clear G;simp only [gaveUp];go_wp2_with fail;refine leaves_cons (f:=50) (args:=#[.pointer (some ⟨w.heap.size,0,none⟩),.pointer (some ⟨w.heap.size+1,0,none⟩)]) (by simp) (by simp [go_sem]) ?_;refine (catchK_gaveUp w.heap.size (w.heap.size+1) (Nat.lt_succ_self _) _ _ p [] w3 a2.out am.out).mono ?_;rintro e u' w'' ⟨rfl,rfl,hB,hV,hI⟩;have s0:=hV.cell;have si:=hI.cell;refine ⟨.tuple #[.agg #[.slice none 0 0],.int .i64 (p)],by simp [results, Tryz.results22,go_sem,s0,si],AnsK.mk a0.out (ownKb_nil _ _) (ap.out.trans (hB.mono (Nat.le_refl _)))⟩
   | ok xs =>
    rw [A] at hP;obtain ⟨va,vc,vs,Vs,LL,he,V,I,ae,G⟩:=hP;subst he;have a0:Hid (wholeK zs=(xs,-1)):=wholeK_ok HT.out HL.out A;obtain ⟨m,hm⟩:∃ m,m=xs.length:=⟨_,rfl⟩;rw [← hm] at V I ⊢;have HM:Hid (m=xs.length):=hm;have a2:Hid (BoxKv w3 w.heap.size (.slice none 0 0)):=a8.out.of (G.block _ a8.out.lt (by omega));have am:Hid (BoxI w3 (w.heap.size+1) (-1)):=a9.out.of (G.block _ a9.out.lt (by omega));have ap:Hid (Below w.heap.size w w3):=aD.out.trans (G.below (by omega) (by omega));have ac:=aA.out;have ar:=ae.lt
    have aV:Hid (OwnKb (w.heap.size+2) w3 (.slice va m vc) vs xs Vs LL):=by
     unfold Hid;subst hm;exact ⟨⟨V.len,ownsX_low V.row (by omega),V.at',V.pa⟩,I.nd,I.dj,I.fr,I.off,fun i p x hx=>⟨by have:=(I.us i p).ge aj.out (by omega) x hx;omega,(I.us i p).lt aj.out (by omega) x hx⟩⟩
    have aS:Hid (RdrAt w3 Wb.heap.size g ts.length ts n):=ae;obtain ⟨W4,T⟩:∃ W,W=w3.setCell ⟨w.heap.size,0,none⟩ (.slice va m vc):=⟨_,rfl⟩;have aN:Hid (W4=w3.setCell ⟨w.heap.size,0,none⟩ (.slice va m vc)):=T;have a6:∀ q,q≠w.heap.size→W4.heap[q]?=w3.heap[q]?:=fun q hq=>by rw [T];exact heap_set1 _ _ _ _ hq
    have aF:W4.heap.size=w3.heap.size:=by rw [T];simp
    have ai:Hid (BoxKv W4 w.heap.size (.slice va m vc)):=by unfold Hid;rw [T];exact a2.out.set _
    have al:Hid (BoxI W4 (w.heap.size+1) (-1)):=am.out.of (a6 _ (by omega));have aR:Hid (RdrAt W4 Wb.heap.size g ts.length ts n):=aS.out.of (a6 _ (by omega));have aW:Hid (Below w.heap.size w W4):=by unfold Hid;rw [T];exact ap.out.setCell (Nat.le_refl _) _
    have aU:Hid (OwnKb (w.heap.size+2) W4 (.slice va m vc) vs xs Vs LL):=aV.out.keep (fun q h1 h2=>a6 q (by omega)) (by omega);have v0:=a2.out.cell;have aa:=a2.out.frz 0;clear G V I ae T a6 aF hm ar ac;go_upto_region 7 with fail;rw [← aN.out];clear v0 aa;obtain ⟨ra,rc,au,aM,aq,aX⟩:=aR.out;obtain ⟨r0,r1⟩:=au.cells;rw [Nat.sub_self] at r0;clear au aM aq;have v0:=ai.out.cell;have aa:=ai.out.frz 0;have i0:=al.out.cell;have a5:=al.out.frz 0;go_wp2_with fail;refine leaves_cons (f:=50) (args:=#[.pointer (some ⟨w.heap.size,0,none⟩),.pointer (some ⟨w.heap.size+1,0,none⟩)]) (by simp) (by simp [go_sem]) ?_;refine (catchK_none w.heap.size (w.heap.size+1) _).mono ?_;rintro e u' w'' ⟨rfl,rfl,rfl⟩;obtain ⟨hB,hV,hI⟩:=setK2_mem (Nat.lt_succ_self w.heap.size) ai.out al.out (.slice va m vc) (-1);have s0:=hV.cell;have si:=hI.cell;refine ⟨.tuple #[.agg #[.slice va m vc],.int .i64 (-1)],by simp [results, Tryz.results22,go_sem,s0,si],AnsK.mk (vs:=vs) (Vs:=Vs) (LL:=LL) a0.out ?_ (aW.out.trans hB)⟩;exact (aU.out.keep (fun q h1 _=>by rw [heap_set1 _ _ _ _ (by omega),heap_set1 _ _ _ _ (by omega)]) (by simp)).mono (by omega)
 have b4:(bad != -1)=true:=by simpa using hbad
 obtain ⟨Wb,E⟩:∃ W,W=w1.setCell ⟨w.heap.size+1,0,none⟩ (.int .i64 bad):=⟨_,rfl⟩;have ah:Hid (Wb=w1.setCell ⟨w.heap.size+1,0,none⟩ (.int .i64 bad)):=E;have X:Hid (BoxKv Wb w.heap.size (.slice none 0 0)):=by unfold Hid;rw [E];exact ay.out.of (heap_set1 _ _ _ _ a4)
 have J:Hid (BoxI Wb (w.heap.size+1) bad):=by unfold Hid;rw [E];exact a3.out.set bad
 have ao:Hid (Below w.heap.size w Wb):=by unfold Hid;rw [E];exact aE.out.setCell (by show w.heap.size≤w.heap.size+1;omega) _
 clear E;go_upto_region 2 with fail;rw [← ah.out];have v0:=X.out.cell;have aa:=X.out.frz 0;clear i0 a5;have i0:=J.out.cell;have a5:=J.out.frz 0;have a0:Hid (wholeK zs=([],bad)):=wholeK_tok HT.out hbad;go_wp2_with fail;go_region;go_wp2;obtain ⟨hB,hV,hI⟩:=setK2_mem (Nat.lt_succ_self w.heap.size) X.out J.out (.slice none 0 0) bad;have s0:=hV.cell;have si:=hI.cell;refine ⟨.tuple #[.agg #[.slice none 0 0],.int .i64 bad],by simp [results, Tryz.results22,go_sem,s0,si],AnsK.mk a0.out (ownKb_nil _ _) (ao.out.trans hB).drew⟩
end

section
open Go.RowKit
theorem rol_rd {W:World} {a:Option Addr} {n A:Nat} {zs:List Int} {b' b i lo hi:Nat} {v:Value} (h:RolR W (.slice a n A) zs b') (hb:b'≠b) (h1:lo≤b') (h2:b'<hi):Rd lo hi (W.setCell ⟨b,i,none⟩ v) a n A zs:=by
 obtain ⟨a',c',e,h3,_⟩:=h;simp only [Value.slice.injEq] at e;obtain ⟨rfl,rfl,rfl⟩:=e;refine (h3.keep (w':=W.setCell ⟨b,i,none⟩ v) (fun x hx=>?_)).rd (fun x hx=>?_)
 · obtain ⟨j,hj,rfl⟩:=mem_leafB.1 hx;exact Below.heap_setCell _ _ _ _ hb
 obtain ⟨j,hj,rfl⟩:=mem_leafB.1 hx;exact ⟨h1,h2⟩
structure WpV (B:Nat) (a:Option Addr) (n A:Nat) (zs:List Int) (hi:Nat) (w:World) (X:Nat) (k:Int) (na:Option Addr) (nn nc:Nat) (ra:Option Addr) (rn rc:Nat) (ka:Option Addr) (kn kc:Nat) (D K:Nat) (wr:World):Prop where
 m:DrM B a n A zs hi w wr
 x:w.heap.size<X
 box:BoxC wr X (.int .i64 k) (.slice na nn nc) (.slice ra rn rc) (.slice ka kn kc)
 own:∃ c L,OwC wr D (.agg #[.int .i64 k,.slice na nn nc,.slice ra rn rc,.slice ka kn kc]) c L∧(∀ x∈L,w.heap.size<x.1.block∧x.1.block≠X∧x.1.block<wr.heap.size)∧c.bulk≤K
theorem WpV.wrap {B:Nat} {a:Option Addr} {n A:Nat} {zs:List Int} {hi:Nat} {w:World} {X:Nat} {k:Int} {na:Option Addr} {nn nc:Nat} {ra:Option Addr} {rn rc:Nat} {ka:Option Addr} {kn kc:Nat} {D K:Nat} {wr:World} (h:WpV B a n A zs hi w X k na nn nc ra rn rc ka kn kc D K wr) (hB:B<w.heap.size) (k':Int) (row:Array Value) (m:Nat) (hm:m≤2)
    (E:∀ i,i<m→row[0+i*4]?=some (.int .i64 k)∧row[0+i*4+1]?=some (.slice na nn nc)∧row[0+i*4+2]?=some (.slice ra rn rc)∧row[0+i*4+3]?=some (.slice ka kn kc)) :
    WpV B a n A zs hi w X k' none 0 0 none 0 0 (some ⟨wr.heap.size,0,none⟩) m m (D+1) (m*(1+K)) (((((wr.setCell ⟨X,0,none⟩ (.int .i64 k')).setCell ⟨X,1,none⟩ (.slice none 0 0)).setCell ⟨X,2,none⟩ (.slice none 0 0)).setCell ⟨X,3,none⟩ (.slice (some ⟨wr.heap.size,0,none⟩) m m)).alloc (.cells row 37)):=by
 obtain ⟨c,L,hr,hL,hk⟩:=h.own;have T:X<wr.heap.size:=h.box.lt;have hx:=h.x;obtain ⟨V,hV⟩:∃ V,V=((((wr.setCell ⟨X,0,none⟩ (.int .i64 k')).setCell ⟨X,1,none⟩ (.slice none 0 0)).setCell ⟨X,2,none⟩ (.slice none 0 0)).setCell ⟨X,3,none⟩ (.slice (some ⟨wr.heap.size,0,none⟩) m m)):=⟨_,rfl⟩;have G:V.heap.size=wr.heap.size:=by rw [hV];simp
 have hb:Below V.heap.size V (V.alloc (.cells row 37)):=(Below.refl _ _).alloc (Nat.le_refl _) _;obtain ⟨W,hW⟩:∃ W,W=V.alloc (.cells row 37):=⟨_,rfl⟩
 have J:∀ q,q≠X→q<wr.heap.size→W.heap[q]?=wr.heap[q]?:=by
  intro q hq hl;rw [hW,hb.block q (by omega),hV];exact heap_set4 _ _ _ _ _ hq
 have O:W.heap.size=wr.heap.size+1:=by rw [hW];simp [G]
 have F:BoxC W X (.int .i64 k') (.slice none 0 0) (.slice none 0 0) (.slice (some ⟨wr.heap.size,0,none⟩) m m):=by
  have:BoxC V X (.int .i64 k') (.slice none 0 0) (.slice none 0 0) (.slice (some ⟨wr.heap.size,0,none⟩) m m):=by rw [hV];exact h.box.set4 _ _ _ _
  rw [hW];exact (hb.block _ (by omega)).trans this
 have I:OwC W D (.agg #[.int .i64 k,.slice na nn nc,.slice ra rn rc,.slice ka kn kc]) c L:=hr.keep (fun x hx=>J _ (hL x hx).2.1 (hL x hx).2.2)
 have z:∀ j u,row[j]?=some u→W.cell? ⟨wr.heap.size,j,none⟩=some u:=by
  intro j u hu;rw [hW,← G,cell_of_row _ V.heap.size j row _ (0,0) (Go.heap_alloc_new V _)];exact hu
 rw [← hV];rw [← hW];refine ⟨?_,hx,F,.mk k' [] [] (List.replicate m c),leafK wr.heap.size 0 (fun _=>L) m,?_,?_,?_⟩
 · have:DrM B a n A zs hi w V:=by rw [hV];exact (((h.m.set hB hx _).set hB hx _).set hB hx _).set hB hx _
   rw [hW];exact this.below hB hb
 · have h0:OwB W none 0 0 [] 0 0:=⟨rfl,⟨by simp,by omega⟩,by simp,.inl rfl⟩;refine ⟨none,0,0,none,0,0,_,_,_,0,0,0,0,wr.heap.size,0,fun _=>L,rfl,h0,h0,⟨by show (List.replicate m c).length=m;simp,⟨Nat.le_refl _,by omega⟩,.inr ⟨rfl,fun i hi=>?_⟩⟩,by simp [leafB]⟩;obtain ⟨r0,r1,r2,r3⟩:=E i hi
   have e:(CN.mk k' [] [] (List.replicate m c)).kids.getD i CN.zero=c:=by
    show (List.replicate m c).getD i CN.zero=c
    simp [List.getD,hi]
   rw [e];exact ⟨_,_,_,_,z _ _ r0,z _ _ r1,z _ _ r2,z _ _ r3,I⟩
 · intro x H;obtain ⟨i,_,e⟩:=mem_leafK.1 H;rcases e with rfl | e
   · have:=h.m.bt.size;exact ⟨by show w.heap.size<wr.heap.size;omega,by show wr.heap.size≠X;omega,by show wr.heap.size<W.heap.size;omega⟩
   have:=hL x e;exact ⟨this.1,this.2.1,by omega⟩
 have N:∀ m,bulks (List.replicate m c)=m*(1+c.bulk):=by
  intro m
  induction m with
  | zero=>simp [bulks]
  | succ m ih=>rw [List.replicate_succ,bulks,ih,Nat.succ_mul];omega
 rw [CN.bulk,N];have:=Nat.mul_le_mul_left m (Nat.add_le_add_left hk 1);simp only [List.length_nil];omega
end

end Go.Proofs.YtocpeiaolofodaaGreat
