/- One thing told under way, in memory: its twelve cells behind the kind, what each reads as, and the cells that are its own. -/
import Derived.Test.YtocpeiaolofodaaGreatNG13
import Derived.Test.YtocpeiaolofodaaGreatReadI2
namespace Go.Proofs.YtocpeiaolofodaaGreat
open Go.RowKit
structure XV where
 c0:Value
 c1:Value
 c2:Value
 c3:Value
 d0:Value
 d1:Value
 d2:Value
 d3:Value
 r:Value
 s:Value
 a:Value
 b:Value
def XV.arr (k:Int) (V:XV):Array Value:=#[.int .i64 k,V.c0,V.c1,V.c2,V.c3,V.d0,V.d1,V.d2,V.d3,V.r,V.s,V.a,V.b]
def XV.zero:XV:=⟨.int .i64 0,.slice none 0 0,.slice none 0 0,.slice none 0 0,.int .i64 0,.slice none 0 0,.slice none 0 0,.slice none 0 0,.slice none 0 0,.slice none 0 0,.slice none 0 0,.slice none 0 0⟩
def BoxX (W:World) (p:Nat) (k:Int) (V:XV):Prop:=W.heap[p]?=some (.cells (V.arr k) 39 (0,0))
theorem BoxX.cells {W:World} {p:Nat} {k:Int} {V:XV} (h:BoxX W p k V):W.cell? ⟨p,0,none⟩=some (.int .i64 k)∧W.cell? ⟨p,1,none⟩=some V.c0∧W.cell? ⟨p,2,none⟩=some V.c1∧W.cell? ⟨p,3,none⟩=some V.c2∧W.cell? ⟨p,4,none⟩=some V.c3∧W.cell? ⟨p,5,none⟩=some V.d0∧W.cell? ⟨p,6,none⟩=some V.d1∧W.cell? ⟨p,7,none⟩=some V.d2∧W.cell? ⟨p,8,none⟩=some V.d3∧W.cell? ⟨p,9,none⟩=some V.r∧W.cell? ⟨p,10,none⟩=some V.s∧W.cell? ⟨p,11,none⟩=some V.a∧W.cell? ⟨p,12,none⟩=some V.b:=by
 unfold BoxX XV.arr at h;refine ⟨?_,?_,?_,?_,?_,?_,?_,?_,?_,?_,?_,?_,?_⟩ <;> simp [World.cell?,h]
theorem BoxX.frz {W:World} {p:Nat} {k:Int} {V:XV} (h:BoxX W p k V) (o:Nat):W.frozen? ⟨p,o,none⟩=false:=by
 unfold BoxX at h;simp [World.frozen?,h]
theorem BoxX.lt {W:World} {p:Nat} {k:Int} {V:XV} (h:BoxX W p k V):p<W.heap.size:=(Array.getElem?_eq_some_iff.1 h).1
theorem BoxX.of {W W':World} {p:Nat} {k:Int} {V:XV} (h:BoxX W p k V) (e:W'.heap[p]?=W.heap[p]?):BoxX W' p k V:=e.trans h
def zeroX:Array Value:=#[.int .i64 0,.int .i64 0,.slice none 0 0,.slice none 0 0,.slice none 0 0,.int .i64 0,.slice none 0 0,.slice none 0 0,.slice none 0 0,.slice none 0 0,.slice none 0 0,.slice none 0 0,.slice none 0 0]
theorem infoX13:(Tryz.prog.info? 39).map (·.size)=some 13:=by kernel_rfl
theorem heap_set1 (W:World) (b o:Nat) (x:Value) {q:Nat} (h:q≠b):(W.setCell ⟨b,o,none⟩ x).heap[q]?=W.heap[q]?:=Below.heap_setCell _ _ _ _ (by show q≠b;exact h)
def OwSk (w:World) (v:Value) (zs:List Int) (L:List (Addr × IntKind)):Prop:=∃ a c b,v=.slice a zs.length c∧OwB w a zs.length c zs b 0∧L=leafB b 0 zs.length
theorem OwSk.keep {w w':World} {v:Value} {zs:List Int} {L:List (Addr × IntKind)} (h:OwSk w v zs L) (hk:∀ x∈L,w'.heap[x.1.block]?=w.heap[x.1.block]?):OwSk w' v zs L:=by
 obtain ⟨a,c,b,h1,h2,rfl⟩:=h;exact ⟨a,c,b,h1,h2.keep hk,rfl⟩
theorem OwSk.nil (w:World):OwSk w (.slice none 0 0) [] []:=⟨none,0,0,rfl,⟨rfl,⟨by simp,by omega⟩,by simp,.inl rfl⟩,rfl⟩
theorem OwSk.form {w:World} {v:Value} {zs:List Int} {L:List (Addr × IntKind)} (h:OwSk w v zs L):∃ a n c,v=.slice a n c:=by
 obtain ⟨a,c,b,h1,_⟩:=h;exact ⟨_,_,_,h1⟩
def upd (Ls:Nat→List (Addr × IntKind)) (p:Nat) (L:List (Addr × IntKind)):Nat→List (Addr × IntKind):=fun q=>if q=p then L else Ls q
structure PaX (w:World) (d:Nat) (V:XV) (x:AX) (Ls:Nat→List (Addr × IntKind)):Prop where
 c:OwC w d (.agg #[V.c0,V.c1,V.c2,V.c3]) x.c (Ls 0)
 d:OwC w d (.agg #[V.d0,V.d1,V.d2,V.d3]) x.d (Ls 1)
 r:OwSk w V.r x.r (Ls 2)
 s:OwSk w V.s x.s (Ls 3)
 a:OwSk w V.a x.a (Ls 4)
 b:OwSk w V.b x.b (Ls 5)
theorem PaX.keep {w w':World} {d:Nat} {V:XV} {x:AX} {Ls:Nat→List (Addr × IntKind)} (h:PaX w d V x Ls) (hk:∀ p,∀ y∈Ls p,w'.heap[y.1.block]?=w.heap[y.1.block]?):PaX w' d V x Ls :=
 ⟨h.c.keep (hk 0),h.d.keep (hk 1),h.r.keep (hk 2),h.s.keep (hk 3),h.a.keep (hk 4),h.b.keep (hk 5)⟩
structure Se6 (ts:List Tok) (gs:List (Nat × Nat)) (i j s t:Nat) (w:World) (Ls:Nat→List (Addr × IntKind)):Prop where
 nd:∀ p,((Ls p).map (·.1)).Nodup
 dj:∀ p q,p≠q→∀ x∈Ls p,∀ y∈Ls q,x.1.block≠y.1.block
 fr:∀ p,∀ x∈Ls p,w.frozen? x.1=false
 us:∀ p,Use ts gs i j s t (Ls p)
theorem Se6.nil (ts:List Tok) (gs:List (Nat × Nat)) (i j s t:Nat) (w:World):Se6 ts gs i j s t w (fun _=>[]) :=
 ⟨fun _=>by simp,fun _ _ _ x hx=>by simp at hx,fun _ x hx=>by simp at hx,fun _=>Use.nil _ _ _ _ _ _⟩
theorem Se6.keep {ts:List Tok} {gs:List (Nat × Nat)} {i j s t:Nat} {w w':World} {Ls:Nat→List (Addr × IntKind)} (h:Se6 ts gs i j s t w Ls) (hk:∀ p,∀ y∈Ls p,w'.heap[y.1.block]?=w.heap[y.1.block]?):Se6 ts gs i j s t w' Ls :=
 ⟨h.nd,h.dj,fun p x hx=>(World.frozen?_of_block (w:=w) (hk p x hx)).trans (h.fr p x hx),h.us⟩
theorem Se6.mono {ts:List Tok} {gs:List (Nat × Nat)} {i j s t i' j' s' t':Nat} {w:World} {Ls:Nat→List (Addr × IntKind)} (h:Se6 ts gs i j s t w Ls) (h1:i'≤i) (h2:j≤j') (h3:s'≤s) (h4:t≤t'):Se6 ts gs i' j' s' t' w Ls :=
 ⟨h.nd,h.dj,h.fr,fun p=>(h.us p).mono h1 h2 h3 h4⟩
theorem Se6.put {base pb g:Nat} {w0:World} {ts:List Tok} {gs:List (Nat × Nat)} {i j j' s t t':Nat} {w:World} {Ls:Nat→List (Addr × IntKind)} (h:Se6 ts gs i j s t w Ls) (hT:TkM base pb w0 g ts gs) (p:Nat) {L:List (Addr × IntKind)}
    (I:(L.map (·.1)).Nodup) (N:∀ x∈L,w.frozen? x.1=false) (A:Use ts gs j j' t t' L) (D:i≤j) (J:j≤j') (T:s≤t) (U:t≤t') (hp:pb≤s):Se6 ts gs i j' s t' w (upd Ls p L):=by
 refine ⟨fun q=>?_,fun q q' hq x hx y hy=>?_,fun q x hx=>?_,fun q=>?_⟩
 · unfold upd;split
   · exact I
   exact h.nd q
 · unfold upd at hx hy
   split at hx <;> split at hy
   · omega
   · exact fun e=>(h.us q').disj A hT (Nat.le_refl _) (Nat.le_refl _) hp T y hy x hx e.symm
   · exact (h.us q).disj A hT (Nat.le_refl _) (Nat.le_refl _) hp T x hx y hy
   exact h.dj q q' hq x hx y hy
 · unfold upd at hx
   split at hx
   · exact N x hx
   exact h.fr q x hx
 unfold upd;split
 · exact A.mono D (Nat.le_refl _) T (Nat.le_refl _)
 exact (h.us q).mono (Nat.le_refl _) J (Nat.le_refl _) U
structure SsX (base pb g:Nat) (ts:List Tok) (gs:List (Nat × Nat)) (w0:World) (p s:Nat):Prop where
 t:TkM base pb w0 g ts gs
 plt:pb<w0.heap.size
 p0:w0.heap.size≤p
 p1:p<s
structure StX (pb g:Nat) (ts:List Tok) (gs:List (Nat × Nat)) (en:Int) (w0:World) (i0 p s:Nat) (k:Int) (w:World) (V:XV) (x:AX) (Ls:Nat→List (Addr × IntKind)) (j:Nat):Prop where
 bt:Bt pb w0.heap.size w0 w
 box:BoxX w p k V
 pa:PaX w 6 V x Ls
 se:Se6 ts gs i0 j s w.heap.size w Ls
 rdr:RdrAt w pb g j ts en
 le:s≤w.heap.size
theorem StX.tk {base pb g:Nat} {ts:List Tok} {gs:List (Nat × Nat)} {en:Int} {w0:World} {i0 p s:Nat} {k:Int} {w:World} {V:XV} {x:AX} {Ls:Nat→List (Addr × IntKind)} {j:Nat} (h:StX pb g ts gs en w0 i0 p s k w V x Ls j) (hS:SsX base pb g ts gs w0 p s):TkM base pb w g ts gs:=hS.t.bt h.bt (Nat.le_of_lt hS.plt)
theorem StX.next {base pb g:Nat} {ts:List Tok} {gs:List (Nat × Nat)} {en:Int} {w0:World} {i0 p s:Nat} {k:Int} {w w1:World} {V:XV} {x:AX} {Ls:Nat→List (Addr × IntKind)} {j j':Nat} (h:StX pb g ts gs en w0 i0 p s k w V x Ls j) (hS:SsX base pb g ts gs w0 p s) (hb:Bt pb w.heap.size w w1) (J:j≤j') (hR:RdrAt w1 pb g j' ts en):StX pb g ts gs en w0 i0 p s k w1 V x Ls j':=by
 have E:=hS.plt;have O:=hS.p0;have F:=hS.p1;have G:=h.le;have hk:∀ q,∀ y∈Ls q,w1.heap[y.1.block]?=w.heap[y.1.block]?:=fun q y hy=>hb.block _ ((h.se.us q).lt hS.t (by omega) y hy) ((h.se.us q).ne hS.t (Nat.le_refl pb) (by omega) y hy)
 exact ⟨h.bt.trans (hb.mono h.bt.size),h.box.of (hb.block _ h.box.lt (by omega)),h.pa.keep hk,(h.se.keep hk).mono (Nat.le_refl _) J (Nat.le_refl _) hb.size,hR,Nat.le_trans h.le hb.size⟩
theorem tok_ows {base pb g:Nat} {w:World} {ts:List Tok} {gs:List (Nat × Nat)} {i:Nat} (hT:TkM base pb w g ts gs) (hi:i<ts.length) (s:Nat) :
    ∃ a c L,txv (ts.getD i Tok.zero) (gs.getD i (0,0))=.slice a (wordI ts i).length c∧OwSk w (.slice a (wordI ts i).length c) (wordI ts i) L∧(L.map (·.1)).Nodup∧(∀ x∈L,w.frozen? x.1=false)∧Use ts gs i (i+1) s s L:=by
 obtain ⟨a,c,hx,hO,_,hf⟩:=hT.word hi;refine ⟨a,c,_,hx,⟨a,c,_,rfl,hO,rfl⟩,leafB_nodup _ _ _,fun x hx=>?_,fun x hx=>?_⟩
 · obtain ⟨j,hj,rfl⟩:=mem_leafB.1 hx;exact hf (fun e=>by rw [e] at hj;simp at hj) _
 obtain ⟨j,hj,rfl⟩:=mem_leafB.1 hx;exact .inr ⟨i,Nat.le_refl _,Nat.lt_succ_self _,hi,fun e=>by rw [show wordI ts i=[] from e] at hj;simp at hj,rfl⟩
theorem BoxX.setC {W:World} {p:Nat} {k:Int} {V:XV} (h:BoxX W p k V) (v0 v1 v2 v3:Value):BoxX ((((W.setCell ⟨p,1,none⟩ v0).setCell ⟨p,2,none⟩ v1).setCell ⟨p,3,none⟩ v2).setCell ⟨p,4,none⟩ v3) p k { V with c0:=v0,c1:=v1,c2:=v2,c3:=v3 }:=by
 unfold BoxX XV.arr at h ⊢;have e0:=heap_setCell_same W p 1 _ _ v0 h;have e1:=heap_setCell_same _ p 2 _ _ v1 e0;have e2:=heap_setCell_same _ p 3 _ _ v2 e1;have e3:=heap_setCell_same _ p 4 _ _ v3 e2;rw [e3];rfl
theorem StX.setC {base pb g:Nat} {ts:List Tok} {gs:List (Nat × Nat)} {en:Int} {w0:World} {i0 p s:Nat} {k:Int} {w w1:World} {V:XV} {x:AX} {Ls:Nat→List (Addr × IntKind)} {j j':Nat} (h:StX pb g ts gs en w0 i0 p s k w V x Ls j) (hS:SsX base pb g ts gs w0 p s) (D:i0≤j) (J:j≤j') {v0 v1 v2 v3:Value} {c:CN} {L:List (Addr × IntKind)} (hb:Bt pb w.heap.size w w1) (hO:OwnR ts gs j j' w.heap.size w1 6 (.agg #[v0,v1,v2,v3]) c L) (hR:RdrAt w1 pb g j' ts en) :
    StX pb g ts gs en w0 i0 p s k ((((w1.setCell ⟨p,1,none⟩ v0).setCell ⟨p,2,none⟩ v1).setCell ⟨p,3,none⟩ v2).setCell ⟨p,4,none⟩ v3) { V with c0:=v0,c1:=v1,c2:=v2,c3:=v3 } { x with c:=c } (upd Ls 0 L) j':=by
 have E:=hS.plt;have O:=hS.p0;have F:=hS.p1;have G:=h.le;have H:=hb.size;have h1:StX pb g ts gs en w0 i0 p s k w1 V x Ls j':=h.next hS hb J hR
 have hn:∀ q,q≠p→((((w1.setCell ⟨p,1,none⟩ v0).setCell ⟨p,2,none⟩ v1).setCell ⟨p,3,none⟩ v2).setCell ⟨p,4,none⟩ v3).heap[q]?=w1.heap[q]?:=fun q hq=>by
  rw [Below.heap_setCell _ _ _ _ (by show q≠p;exact hq),Below.heap_setCell _ _ _ _ (by show q≠p;exact hq),Below.heap_setCell _ _ _ _ (by show q≠p;exact hq),Below.heap_setCell _ _ _ _ (by show q≠p;exact hq)]
 have hk:∀ q,∀ y∈Ls q,((((w1.setCell ⟨p,1,none⟩ v0).setCell ⟨p,2,none⟩ v1).setCell ⟨p,3,none⟩ v2).setCell ⟨p,4,none⟩ v3).heap[y.1.block]?=w1.heap[y.1.block]?:=fun q y hy=>hn _ ((h.se.us q).ne hS.t (by omega) F y hy)
 have z:∀ y∈L,((((w1.setCell ⟨p,1,none⟩ v0).setCell ⟨p,2,none⟩ v1).setCell ⟨p,3,none⟩ v2).setCell ⟨p,4,none⟩ v3).heap[y.1.block]?=w1.heap[y.1.block]?:=fun y hy=>hn _ (hO.us.ne hS.t (by omega) (by omega) y hy)
 refine ⟨(((h1.bt.set (.inl (by show w0.heap.size≤p;omega)) _).set (.inl (by show w0.heap.size≤p;omega)) _).set (.inl (by show w0.heap.size≤p;omega)) _).set (.inl (by show w0.heap.size≤p;omega)) _,h1.box.setC _ _ _ _,?_,?_,hR.of (hn pb (by omega)),by simpa using h1.le⟩
 · have hp:=h1.pa.keep hk;have hc:=hO.ow.keep z;exact ⟨by simpa [upd] using hc,by simpa [upd] using hp.d,by simpa [upd] using hp.r,by simpa [upd] using hp.s,by simpa [upd] using hp.a,by simpa [upd] using hp.b⟩
 have hs:=(h.se.keep (fun q y hy=>hb.block _ ((h.se.us q).lt hS.t (by omega) y hy) ((h.se.us q).ne hS.t (Nat.le_refl pb) (by omega) y hy))).keep hk;exact (hs.put hS.t 0 hO.nd (fun y hy=>(World.frozen?_of_block (w:=w1) (z y hy)).trans (hO.fr y hy)) hO.us D J G H (by omega)).mono (Nat.le_refl _) (Nat.le_refl _) (Nat.le_refl _) (by simp)
theorem BoxX.setD {W:World} {p:Nat} {k:Int} {V:XV} (h:BoxX W p k V) (v0 v1 v2 v3:Value):BoxX ((((W.setCell ⟨p,5,none⟩ v0).setCell ⟨p,6,none⟩ v1).setCell ⟨p,7,none⟩ v2).setCell ⟨p,8,none⟩ v3) p k { V with d0:=v0,d1:=v1,d2:=v2,d3:=v3 }:=by
 unfold BoxX XV.arr at h ⊢;have e0:=heap_setCell_same W p 5 _ _ v0 h;have e1:=heap_setCell_same _ p 6 _ _ v1 e0;have e2:=heap_setCell_same _ p 7 _ _ v2 e1;have e3:=heap_setCell_same _ p 8 _ _ v3 e2;rw [e3];rfl
theorem StX.setD {base pb g:Nat} {ts:List Tok} {gs:List (Nat × Nat)} {en:Int} {w0:World} {i0 p s:Nat} {k:Int} {w w1:World} {V:XV} {x:AX} {Ls:Nat→List (Addr × IntKind)} {j j':Nat} (h:StX pb g ts gs en w0 i0 p s k w V x Ls j) (hS:SsX base pb g ts gs w0 p s) (D:i0≤j) (J:j≤j') {v0 v1 v2 v3:Value} {c:CN} {L:List (Addr × IntKind)} (hb:Bt pb w.heap.size w w1) (hO:OwnR ts gs j j' w.heap.size w1 6 (.agg #[v0,v1,v2,v3]) c L) (hR:RdrAt w1 pb g j' ts en) :
    StX pb g ts gs en w0 i0 p s k ((((w1.setCell ⟨p,5,none⟩ v0).setCell ⟨p,6,none⟩ v1).setCell ⟨p,7,none⟩ v2).setCell ⟨p,8,none⟩ v3) { V with d0:=v0,d1:=v1,d2:=v2,d3:=v3 } { x with d:=c } (upd Ls 1 L) j':=by
 have E:=hS.plt;have O:=hS.p0;have F:=hS.p1;have G:=h.le;have H:=hb.size;have h1:StX pb g ts gs en w0 i0 p s k w1 V x Ls j':=h.next hS hb J hR
 have hn:∀ q,q≠p→((((w1.setCell ⟨p,5,none⟩ v0).setCell ⟨p,6,none⟩ v1).setCell ⟨p,7,none⟩ v2).setCell ⟨p,8,none⟩ v3).heap[q]?=w1.heap[q]?:=fun q hq=>by
  rw [Below.heap_setCell _ _ _ _ (by show q≠p;exact hq),Below.heap_setCell _ _ _ _ (by show q≠p;exact hq),Below.heap_setCell _ _ _ _ (by show q≠p;exact hq),Below.heap_setCell _ _ _ _ (by show q≠p;exact hq)]
 have hk:∀ q,∀ y∈Ls q,((((w1.setCell ⟨p,5,none⟩ v0).setCell ⟨p,6,none⟩ v1).setCell ⟨p,7,none⟩ v2).setCell ⟨p,8,none⟩ v3).heap[y.1.block]?=w1.heap[y.1.block]?:=fun q y hy=>hn _ ((h.se.us q).ne hS.t (by omega) F y hy)
 have z:∀ y∈L,((((w1.setCell ⟨p,5,none⟩ v0).setCell ⟨p,6,none⟩ v1).setCell ⟨p,7,none⟩ v2).setCell ⟨p,8,none⟩ v3).heap[y.1.block]?=w1.heap[y.1.block]?:=fun y hy=>hn _ (hO.us.ne hS.t (by omega) (by omega) y hy)
 refine ⟨(((h1.bt.set (.inl (by show w0.heap.size≤p;omega)) _).set (.inl (by show w0.heap.size≤p;omega)) _).set (.inl (by show w0.heap.size≤p;omega)) _).set (.inl (by show w0.heap.size≤p;omega)) _,h1.box.setD _ _ _ _,?_,?_,hR.of (hn pb (by omega)),by simpa using h1.le⟩
 · have hp:=h1.pa.keep hk;have hc:=hO.ow.keep z;exact ⟨by simpa [upd] using hp.c,by simpa [upd] using hc,by simpa [upd] using hp.r,by simpa [upd] using hp.s,by simpa [upd] using hp.a,by simpa [upd] using hp.b⟩
 have hs:=(h.se.keep (fun q y hy=>hb.block _ ((h.se.us q).lt hS.t (by omega) y hy) ((h.se.us q).ne hS.t (Nat.le_refl pb) (by omega) y hy))).keep hk;exact (hs.put hS.t 1 hO.nd (fun y hy=>(World.frozen?_of_block (w:=w1) (z y hy)).trans (hO.fr y hy)) hO.us D J G H (by omega)).mono (Nat.le_refl _) (Nat.le_refl _) (Nat.le_refl _) (by simp)
theorem BoxX.setR {W:World} {p:Nat} {k:Int} {V:XV} (h:BoxX W p k V) (v:Value):BoxX (W.setCell ⟨p,9,none⟩ v) p k { V with r:=v }:=by
 unfold BoxX XV.arr at h ⊢;rw [heap_setCell_same W p 9 _ _ v h];rfl
theorem StX.setR {base pb g:Nat} {ts:List Tok} {gs:List (Nat × Nat)} {en:Int} {w0:World} {i0 p s:Nat} {k:Int} {w w1:World} {V:XV} {x:AX} {Ls:Nat→List (Addr × IntKind)} {j:Nat} (h:StX pb g ts gs en w0 i0 p s k w V x Ls j) (hS:SsX base pb g ts gs w0 p s) (D:i0≤j) {v:Value} {L:List (Addr × IntKind)} (hb:Bt pb w.heap.size w w1) (hO:OwSk w1 v (wordI ts j) L) (I:(L.map (·.1)).Nodup) (N:∀ x∈L,w1.frozen? x.1=false) (A:Use ts gs j (j+1) w.heap.size w1.heap.size L) (hR:RdrAt w1 pb g (j+1) ts en) :
    StX pb g ts gs en w0 i0 p s k (w1.setCell ⟨p,9,none⟩ v) { V with r:=v } (putB x 82 (wordI ts j)) (upd Ls 2 L) (j+1):=by
 have E:=hS.plt;have O:=hS.p0;have F:=hS.p1;have G:=h.le;have H:=hb.size;have h1:StX pb g ts gs en w0 i0 p s k w1 V x Ls (j+1):=h.next hS hb (Nat.le_succ _) hR;have hn:∀ q,q≠p→(w1.setCell ⟨p,9,none⟩ v).heap[q]?=w1.heap[q]?:=fun q hq=>Below.heap_setCell _ _ _ _ (by show q≠p;exact hq)
 have hk:∀ q,∀ y∈Ls q,(w1.setCell ⟨p,9,none⟩ v).heap[y.1.block]?=w1.heap[y.1.block]?:=fun q y hy=>hn _ ((h.se.us q).ne hS.t (by omega) F y hy)
 have z:∀ y∈L,(w1.setCell ⟨p,9,none⟩ v).heap[y.1.block]?=w1.heap[y.1.block]?:=fun y hy=>hn _ (by
  rcases A y hy with ⟨a,b⟩ | ⟨t,a,b,c,d,e⟩
  · omega
  have:=(hS.t.txt t c d).1;omega)
 refine ⟨h1.bt.set (.inl (by show w0.heap.size≤p;omega)) _,h1.box.setR _,?_,?_,hR.of (hn pb (by omega)),by simpa using h1.le⟩
 · have hp:=h1.pa.keep hk;have hc:=hO.keep z;exact ⟨by simpa [upd,putB] using hp.c,by simpa [upd,putB] using hp.d,by simpa [upd,putB] using hc,by simpa [upd,putB] using hp.s,by simpa [upd,putB] using hp.a,by simpa [upd,putB] using hp.b⟩
 have hs:=(h.se.keep (fun q y hy=>hb.block _ ((h.se.us q).lt hS.t (by omega) y hy) ((h.se.us q).ne hS.t (Nat.le_refl pb) (by omega) y hy))).keep hk;exact (hs.put hS.t 2 I (fun y hy=>(World.frozen?_of_block (w:=w1) (z y hy)).trans (N y hy)) A D (Nat.le_succ _) G H (by omega)).mono (Nat.le_refl _) (Nat.le_refl _) (Nat.le_refl _) (by simp)
theorem BoxX.setS {W:World} {p:Nat} {k:Int} {V:XV} (h:BoxX W p k V) (v:Value):BoxX (W.setCell ⟨p,10,none⟩ v) p k { V with s:=v }:=by
 unfold BoxX XV.arr at h ⊢;rw [heap_setCell_same W p 10 _ _ v h];rfl
theorem StX.setS {base pb g:Nat} {ts:List Tok} {gs:List (Nat × Nat)} {en:Int} {w0:World} {i0 p s:Nat} {k:Int} {w w1:World} {V:XV} {x:AX} {Ls:Nat→List (Addr × IntKind)} {j:Nat} (h:StX pb g ts gs en w0 i0 p s k w V x Ls j) (hS:SsX base pb g ts gs w0 p s) (D:i0≤j) {v:Value} {L:List (Addr × IntKind)} (hb:Bt pb w.heap.size w w1) (hO:OwSk w1 v (wordI ts j) L) (I:(L.map (·.1)).Nodup) (N:∀ x∈L,w1.frozen? x.1=false) (A:Use ts gs j (j+1) w.heap.size w1.heap.size L) (hR:RdrAt w1 pb g (j+1) ts en) :
    StX pb g ts gs en w0 i0 p s k (w1.setCell ⟨p,10,none⟩ v) { V with s:=v } (putB x 83 (wordI ts j)) (upd Ls 3 L) (j+1):=by
 have E:=hS.plt;have O:=hS.p0;have F:=hS.p1;have G:=h.le;have H:=hb.size;have h1:StX pb g ts gs en w0 i0 p s k w1 V x Ls (j+1):=h.next hS hb (Nat.le_succ _) hR;have hn:∀ q,q≠p→(w1.setCell ⟨p,10,none⟩ v).heap[q]?=w1.heap[q]?:=fun q hq=>Below.heap_setCell _ _ _ _ (by show q≠p;exact hq)
 have hk:∀ q,∀ y∈Ls q,(w1.setCell ⟨p,10,none⟩ v).heap[y.1.block]?=w1.heap[y.1.block]?:=fun q y hy=>hn _ ((h.se.us q).ne hS.t (by omega) F y hy)
 have z:∀ y∈L,(w1.setCell ⟨p,10,none⟩ v).heap[y.1.block]?=w1.heap[y.1.block]?:=fun y hy=>hn _ (by
  rcases A y hy with ⟨a,b⟩ | ⟨t,a,b,c,d,e⟩
  · omega
  have:=(hS.t.txt t c d).1;omega)
 refine ⟨h1.bt.set (.inl (by show w0.heap.size≤p;omega)) _,h1.box.setS _,?_,?_,hR.of (hn pb (by omega)),by simpa using h1.le⟩
 · have hp:=h1.pa.keep hk;have hc:=hO.keep z;exact ⟨by simpa [upd,putB] using hp.c,by simpa [upd,putB] using hp.d,by simpa [upd,putB] using hp.r,by simpa [upd,putB] using hc,by simpa [upd,putB] using hp.a,by simpa [upd,putB] using hp.b⟩
 have hs:=(h.se.keep (fun q y hy=>hb.block _ ((h.se.us q).lt hS.t (by omega) y hy) ((h.se.us q).ne hS.t (Nat.le_refl pb) (by omega) y hy))).keep hk;exact (hs.put hS.t 3 I (fun y hy=>(World.frozen?_of_block (w:=w1) (z y hy)).trans (N y hy)) A D (Nat.le_succ _) G H (by omega)).mono (Nat.le_refl _) (Nat.le_refl _) (Nat.le_refl _) (by simp)
theorem BoxX.setA {W:World} {p:Nat} {k:Int} {V:XV} (h:BoxX W p k V) (v:Value):BoxX (W.setCell ⟨p,11,none⟩ v) p k { V with a:=v }:=by
 unfold BoxX XV.arr at h ⊢;rw [heap_setCell_same W p 11 _ _ v h];rfl
theorem StX.setA {base pb g:Nat} {ts:List Tok} {gs:List (Nat × Nat)} {en:Int} {w0:World} {i0 p s:Nat} {k:Int} {w w1:World} {V:XV} {x:AX} {Ls:Nat→List (Addr × IntKind)} {j:Nat} (h:StX pb g ts gs en w0 i0 p s k w V x Ls j) (hS:SsX base pb g ts gs w0 p s) (D:i0≤j) {v:Value} {L:List (Addr × IntKind)} (hb:Bt pb w.heap.size w w1) (hO:OwSk w1 v (wordI ts j) L) (I:(L.map (·.1)).Nodup) (N:∀ x∈L,w1.frozen? x.1=false) (A:Use ts gs j (j+1) w.heap.size w1.heap.size L) (hR:RdrAt w1 pb g (j+1) ts en) :
    StX pb g ts gs en w0 i0 p s k (w1.setCell ⟨p,11,none⟩ v) { V with a:=v } (putB x 65 (wordI ts j)) (upd Ls 4 L) (j+1):=by
 have E:=hS.plt;have O:=hS.p0;have F:=hS.p1;have G:=h.le;have H:=hb.size;have h1:StX pb g ts gs en w0 i0 p s k w1 V x Ls (j+1):=h.next hS hb (Nat.le_succ _) hR;have hn:∀ q,q≠p→(w1.setCell ⟨p,11,none⟩ v).heap[q]?=w1.heap[q]?:=fun q hq=>Below.heap_setCell _ _ _ _ (by show q≠p;exact hq)
 have hk:∀ q,∀ y∈Ls q,(w1.setCell ⟨p,11,none⟩ v).heap[y.1.block]?=w1.heap[y.1.block]?:=fun q y hy=>hn _ ((h.se.us q).ne hS.t (by omega) F y hy)
 have z:∀ y∈L,(w1.setCell ⟨p,11,none⟩ v).heap[y.1.block]?=w1.heap[y.1.block]?:=fun y hy=>hn _ (by
  rcases A y hy with ⟨a,b⟩ | ⟨t,a,b,c,d,e⟩
  · omega
  have:=(hS.t.txt t c d).1;omega)
 refine ⟨h1.bt.set (.inl (by show w0.heap.size≤p;omega)) _,h1.box.setA _,?_,?_,hR.of (hn pb (by omega)),by simpa using h1.le⟩
 · have hp:=h1.pa.keep hk;have hc:=hO.keep z;exact ⟨by simpa [upd,putB] using hp.c,by simpa [upd,putB] using hp.d,by simpa [upd,putB] using hp.r,by simpa [upd,putB] using hp.s,by simpa [upd,putB] using hc,by simpa [upd,putB] using hp.b⟩
 have hs:=(h.se.keep (fun q y hy=>hb.block _ ((h.se.us q).lt hS.t (by omega) y hy) ((h.se.us q).ne hS.t (Nat.le_refl pb) (by omega) y hy))).keep hk;exact (hs.put hS.t 4 I (fun y hy=>(World.frozen?_of_block (w:=w1) (z y hy)).trans (N y hy)) A D (Nat.le_succ _) G H (by omega)).mono (Nat.le_refl _) (Nat.le_refl _) (Nat.le_refl _) (by simp)
theorem BoxX.setB {W:World} {p:Nat} {k:Int} {V:XV} (h:BoxX W p k V) (v:Value):BoxX (W.setCell ⟨p,12,none⟩ v) p k { V with b:=v }:=by
 unfold BoxX XV.arr at h ⊢;rw [heap_setCell_same W p 12 _ _ v h];rfl
theorem StX.setB {base pb g:Nat} {ts:List Tok} {gs:List (Nat × Nat)} {en:Int} {w0:World} {i0 p s:Nat} {k:Int} {w w1:World} {V:XV} {x:AX} {Ls:Nat→List (Addr × IntKind)} {j:Nat} (h:StX pb g ts gs en w0 i0 p s k w V x Ls j) (hS:SsX base pb g ts gs w0 p s) (D:i0≤j) {v:Value} {L:List (Addr × IntKind)} (hb:Bt pb w.heap.size w w1) (hO:OwSk w1 v (wordI ts j) L) (I:(L.map (·.1)).Nodup) (N:∀ x∈L,w1.frozen? x.1=false) (A:Use ts gs j (j+1) w.heap.size w1.heap.size L) (hR:RdrAt w1 pb g (j+1) ts en) :
    StX pb g ts gs en w0 i0 p s k (w1.setCell ⟨p,12,none⟩ v) { V with b:=v } (putB x 66 (wordI ts j)) (upd Ls 5 L) (j+1):=by
 have E:=hS.plt;have O:=hS.p0;have F:=hS.p1;have G:=h.le;have H:=hb.size;have h1:StX pb g ts gs en w0 i0 p s k w1 V x Ls (j+1):=h.next hS hb (Nat.le_succ _) hR;have hn:∀ q,q≠p→(w1.setCell ⟨p,12,none⟩ v).heap[q]?=w1.heap[q]?:=fun q hq=>Below.heap_setCell _ _ _ _ (by show q≠p;exact hq)
 have hk:∀ q,∀ y∈Ls q,(w1.setCell ⟨p,12,none⟩ v).heap[y.1.block]?=w1.heap[y.1.block]?:=fun q y hy=>hn _ ((h.se.us q).ne hS.t (by omega) F y hy)
 have z:∀ y∈L,(w1.setCell ⟨p,12,none⟩ v).heap[y.1.block]?=w1.heap[y.1.block]?:=fun y hy=>hn _ (by
  rcases A y hy with ⟨a,b⟩ | ⟨t,a,b,c,d,e⟩
  · omega
  have:=(hS.t.txt t c d).1;omega)
 refine ⟨h1.bt.set (.inl (by show w0.heap.size≤p;omega)) _,h1.box.setB _,?_,?_,hR.of (hn pb (by omega)),by simpa using h1.le⟩
 · have hp:=h1.pa.keep hk;have hc:=hO.keep z;exact ⟨by simpa [upd,putB] using hp.c,by simpa [upd,putB] using hp.d,by simpa [upd,putB] using hp.r,by simpa [upd,putB] using hp.s,by simpa [upd,putB] using hp.a,by simpa [upd,putB] using hc⟩
 have hs:=(h.se.keep (fun q y hy=>hb.block _ ((h.se.us q).lt hS.t (by omega) y hy) ((h.se.us q).ne hS.t (Nat.le_refl pb) (by omega) y hy))).keep hk;exact (hs.put hS.t 5 I (fun y hy=>(World.frozen?_of_block (w:=w1) (z y hy)).trans (N y hy)) A D (Nat.le_succ _) G H (by omega)).mono (Nat.le_refl _) (Nat.le_refl _) (Nat.le_refl _) (by simp)
end Go.Proofs.YtocpeiaolofodaaGreat
