/- A bent concept: as it is drawn, and the walk down. -/
import Derived.Test.YtocpeiaolofodaaGreatNG26
import Derived.Deep.CutBlock
namespace Go.Proofs.YtocpeiaolofodaaGreat
open Go.RowKit
def BnP (B:Nat) (a:Option Addr) (n z:Nat) (zs:List Int) (hi:Nat) (w:World) (e:Ending) (w':World):Prop :=
 ∃ v c,e=.returned v∧RdC w.heap.size w'.heap.size w' 20 v c∧c.bulk≤100000∧Cur w' B a n z zs hi∧Bt B w.heap.size w w'
structure BtI (B:Nat) (a:Option Addr) (n z:Nat) (zs:List Int) (hi:Nat) (w:World) (X:Nat) (c:CN) (L:List (Addr × IntKind)) (w':World):Prop where
 m:DrM B a n z zs hi w w'
 x:w.heap.size<X∧X<w'.heap.size
 l:∀ x∈L,w.heap.size<x.1.block∧x.1.block<w'.heap.size
 bulk:c.bulk≤256
 box:∃ k na nn nc ra rn rc ka kn kc,BoxC w' X (.int .i64 k) (.slice na nn nc) (.slice ra rn rc) (.slice ka kn kc)
theorem BtI.only {B:Nat} {a:Option Addr} {n z:Nat} {zs:List Int} {hi:Nat} {w:World} {X:Nat} {c:CN} {L:List (Addr × IntKind)} {w1 w2:World} (h:BtI B a n z zs hi w X c L w1) (hB:B<w.heap.size) (hc:Cur w2 B a n z zs hi) (o:Only B w1 w2) {b o' d:Nat} {c':CN} {L':List (Addr × IntKind)} (hb:Bent w1 X 4 c L b o' d c' L'):BtI B a n z zs hi w X c L w2∧Bent w2 X 4 c L b o' d c' L':=by
 have h1:=h.x;have hs:=o.below.size;exact ⟨⟨h.m.only hB hc o,⟨h1.1,by omega⟩,fun x hx=>⟨(h.l x hx).1,by have:=(h.l x hx).2;omega⟩,h.bulk,by obtain ⟨k,na,nn,nc,ra,rn,rc,ka,kn,kc,q⟩:=h.box;exact ⟨k,na,nn,nc,ra,rn,rc,ka,kn,kc,(o.other _ h1.2 (by omega)).trans q⟩⟩,hb.keep (o.other _ h1.2 (by omega)) (fun x hx=>o.other _ (h.l x hx).2 (by have:=(h.l x hx).1;omega))⟩
def LpI (B:Nat) (a:Option Addr) (n z:Nat) (zs:List Int) (hi:Nat) (w:World) (X:Nat) (c:CN) (L:List (Addr × IntKind)) (p:Value) (wr:World):Prop :=
 ∃ b o d c' L',p=.pointer (some ⟨b,o,none⟩)∧BtI B a n z zs hi w X c L wr∧Bent wr X 4 c L b o d c' L'∧d≤4∧∀ i,wr.frozen? ⟨b,i,none⟩=false
def FnI (B:Nat) (a:Option Addr) (n z:Nat) (zs:List Int) (hi:Nat) (w:World) (X:Nat) (wr:World):Prop :=
 DrM B a n z zs hi w wr∧∃ c,RdS (w.heap.size+1) wr.heap.size wr 19 X 0 c∧c.bulk≤100000
theorem Bent.row {w:World} {X D:Nat} {c:CN} {L:List (Addr × IntKind)} {b o d:Nat} {c':CN} {L':List (Addr × IntKind)} (h:Bent w X D c L b o d c' L') :
    ∃ a n k,w.cell? ⟨b,o+3,none⟩=some (.slice a n k)∧n=c'.kids.length∧(0<n→∃ bk ok,a=some ⟨bk,ok,none⟩):=by
 obtain ⟨v0,v1,v2,v3,c0,c1,c2,c3,hr⟩:=h.sub;cases d with
 | zero=>exact hr.elim
 | succ d =>
  obtain ⟨na,nn,nc,ra,rn,rc,ka,kn',kc',bn,on,br,or,bk',ok',Ls,hv,q1,q2,q3,rfl⟩:=hr;simp only [Value.agg.injEq,Array.mk.injEq,List.cons.injEq,and_true] at hv;obtain ⟨rfl,rfl,rfl,rfl⟩:=hv;refine ⟨_,_,_,c3,q3.len.symm,fun hn=>?_⟩;rcases q3.cells with q | ⟨e2,q⟩
  · omega
  exact ⟨_,_,e2⟩
theorem BtI.yb {B:Nat} {a:Option Addr} {n z:Nat} {zs:List Int} {hi:Nat} {w:World} {X:Nat} {c:CN} {L:List (Addr × IntKind)} {w1:World} (h:BtI B a n z zs hi w X c L w1) {b o' d:Nat} {c':CN} {L':List (Addr × IntKind)} (hb:Bent w1 X 4 c L b o' d c' L'):w.heap.size<b:=by
 rcases hb.at_ with e | e
 · rw [e];exact h.x.1
 exact (h.l _ e).1
theorem BtI.yl {B:Nat} {a:Option Addr} {n z:Nat} {zs:List Int} {hi:Nat} {w:World} {X:Nat} {c:CN} {L:List (Addr × IntKind)} {w1:World} (h:BtI B a n z zs hi w X c L w1) {b o' d:Nat} {c':CN} {L':List (Addr × IntKind)} (hb:Bent w1 X 4 c L b o' d c' L'):b<w1.heap.size:=by
 rcases hb.at_ with e | e
 · rw [e];exact h.x.2
 exact (h.l _ e).2
theorem BtI.keepy {B:Nat} {a:Option Addr} {n z:Nat} {zs:List Int} {hi:Nat} {w:World} {X:Nat} {c:CN} {L:List (Addr × IntKind)} {w1 w2:World} (h:BtI B a n z zs hi w X c L w1) {b o' d:Nat} {c':CN} {L':List (Addr × IntKind)} (hb:Bent w1 X 4 c L b o' d c' L') (hB:B<w.heap.size) (o:Only B w1 w2):w2.heap[b]?=w1.heap[b]? :=
 o.other _ (h.yl hb) (by have:=h.yb hb;omega)
theorem BtI.below {B:Nat} {a:Option Addr} {n z:Nat} {zs:List Int} {hi:Nat} {w:World} {X:Nat} {c:CN} {L:List (Addr × IntKind)} {w1 w2:World} (h:BtI B a n z zs hi w X c L w1) (hB:B<w.heap.size) (o:Below w1.heap.size w1 w2) {b o' d:Nat} {c':CN} {L':List (Addr × IntKind)} (hb:Bent w1 X 4 c L b o' d c' L'):BtI B a n z zs hi w X c L w2∧Bent w2 X 4 c L b o' d c' L':=by
 have h1:=h.x;have hs:=o.size;exact ⟨⟨h.m.below hB o,⟨h1.1,by omega⟩,fun x hx=>⟨(h.l x hx).1,by have:=(h.l x hx).2;omega⟩,h.bulk,by obtain ⟨k,na,nn,nc,ra,rn,rc,ka,kn,kc,q⟩:=h.box;exact ⟨k,na,nn,nc,ra,rn,rc,ka,kn,kc,(o.block _ h1.2).trans q⟩⟩,hb.keep (o.block _ h1.2) (fun x hx=>o.block _ (h.l x hx).2)⟩
theorem RdC.formS {lo hi d:Nat} {w:World} {v0 v1 v2 v3:Value} {c:CN} (h:RdC lo hi w d (.agg #[v0,v1,v2,v3]) c):v0=.int .i64 c.kind∧(∃ a n k,v1=.slice a n k)∧(∃ a n k,v2=.slice a n k)∧(∃ a n k,v3=.slice a n k):=by
 cases d with
 | zero=>exact h.elim
 | succ d =>
  obtain ⟨na,nn,nc,ra,rn,rc,ka,kn,kc,hv,_⟩:=h;simp only [Value.agg.injEq,Array.mk.injEq,List.cons.injEq,and_true] at hv;obtain ⟨rfl,rfl,rfl,rfl⟩:=hv;exact ⟨rfl,⟨_,_,_,rfl⟩,⟨_,_,_,rfl⟩,⟨_,_,_,rfl⟩⟩
theorem FnI.kind {B:Nat} {a:Option Addr} {n z:Nat} {zs:List Int} {hi:Nat} {w:World} {X:Nat} {c:CN} {L:List (Addr × IntKind)} {w1:World} (h:BtI B a n z zs hi w X c L w1) {b o d:Nat} {c':CN} {L':List (Addr × IntKind)} (hb:Bent w1 X 4 c L b o d c' L') (hd:d≤4) (hB:B<w.heap.size) (J:w.heap.size<b) (k:Int):FnI B a n z zs hi w X (w1.setCell ⟨b,o,none⟩ (.int .i64 k)):=by
 obtain ⟨c'',q1,q2⟩:=put_kind (lo:=w.heap.size+1) hb (fun x hx=>h.l x hx) k;have hs:(w1.setCell ⟨b,o,none⟩ (.int .i64 k)).heap.size=w1.heap.size:=by simp
 refine ⟨h.m.set hB J _,c'',by rw [hs];exact q1.higher (by omega),?_⟩;have:=h.bulk;have:=hb.bulk;omega
theorem FnI.name {B:Nat} {a:Option Addr} {n z:Nat} {zs:List Int} {hi:Nat} {w:World} {X:Nat} {c:CN} {L:List (Addr × IntKind)} {w1:World} (h:BtI B a n z zs hi w X c L w1) {b o d:Nat} {c':CN} {L':List (Addr × IntKind)} (hb:Bent w1 X 4 c L b o d c' L') (hd:d≤4) (hB:B<w.heap.size) (J:w.heap.size<b) {a':Option Addr} {n' cap' b':Nat} {nm:List Int} (hr:RolR w1 (.slice a' n' cap') nm b') (h1:b<b') (h2:b'<w1.heap.size) (h3:nm.length≤100):FnI B a n z zs hi w X (w1.setCell ⟨b,o+1,none⟩ (.slice a' n' cap')):=by
 obtain ⟨c'',q1,q2⟩:=put_name (lo:=w.heap.size+1) hb (fun x hx=>h.l x hx) (rol_rd hr (by omega) (by omega) h2);have hs:(w1.setCell ⟨b,o+1,none⟩ (.slice a' n' cap')).heap.size=w1.heap.size:=by simp
 refine ⟨h.m.set hB J _,c'',by rw [hs];exact q1.higher (by omega),?_⟩;have:=h.bulk;have:=hb.bulk;omega
theorem FnI.role {B:Nat} {a:Option Addr} {n z:Nat} {zs:List Int} {hi:Nat} {w:World} {X:Nat} {c:CN} {L:List (Addr × IntKind)} {w1:World} (h:BtI B a n z zs hi w X c L w1) {b o d:Nat} {c':CN} {L':List (Addr × IntKind)} (hb:Bent w1 X 4 c L b o d c' L') (hd:d≤4) (hB:B<w.heap.size) (J:w.heap.size<b) {a':Option Addr} {n' cap' b':Nat} {nm:List Int} (hr:RolR w1 (.slice a' n' cap') nm b') (h1:b<b') (h2:b'<w1.heap.size) (h3:nm.length≤100):FnI B a n z zs hi w X (w1.setCell ⟨b,o+2,none⟩ (.slice a' n' cap')):=by
 obtain ⟨c'',q1,q2⟩:=put_role (lo:=w.heap.size+1) hb (fun x hx=>h.l x hx) (rol_rd hr (by omega) (by omega) h2);have hs:(w1.setCell ⟨b,o+2,none⟩ (.slice a' n' cap')).heap.size=w1.heap.size:=by simp
 refine ⟨h.m.set hB J _,c'',by rw [hs];exact q1.higher (by omega),?_⟩;have:=h.bulk;have:=hb.bulk;omega
theorem FnI.kids {B:Nat} {a:Option Addr} {n z:Nat} {zs:List Int} {hi:Nat} {w:World} {X:Nat} {c:CN} {L:List (Addr × IntKind)} {w1 w2:World} (h:BtI B a n z zs hi w X c L w1) {b o e:Nat} {c':CN} {L':List (Addr × IntKind)} (hb:Bent w1 X 4 c L b o (e+1) c' L') (hd:e+1≤4) (hB:B<w.heap.size) (J:w.heap.size<b) {ka:Option Addr} {kn kc:Nat} (h3:w1.cell? ⟨b,o+3,none⟩=some (.slice ka kn kc))
    {m:Nat} {xs:List Value} (E:w1.ownsRow 0 37 4 (.slice ka kn kc) m xs) (av:∀ g,(Value.slice ka kn kc).ownBlock=some g→((⟨g,0,none⟩,.i64):Addr × IntKind)∈L∧∀ x∈L,x.1.block=g→x.1.off+4≤m*4)
    {g cp:Nat} (cJ:w2.ownsRow 0 37 4 (.slice (some ⟨g,0,none⟩) (m+1) cp) (m+1) (xs++zero4)) (hg:w1.grownBy w2 (Value.slice ka kn kc).ownBlock) (aF:(Value.slice ka kn kc).ownBlock=some g∨(g=w1.heap.size∧∀ k,k<w1.heap.size→w2.heap[k]?=w1.heap[k]?)) (cP:g<w2.heap.size):FnI B a n z zs hi w X (w2.setCell ⟨b,o+3,none⟩ (.slice (some ⟨g,0,none⟩) (m+1) cp)):=by
 have dl:=h.m.bt.size;obtain ⟨c'',q1,q2⟩:=put_kids (lo:=w.heap.size+1) hb h.x.2 (by have:=h.x;omega) (fun x hx=>h.l x hx) h3 E av cJ hg aF cP;have hs:(w2.setCell ⟨b,o+3,none⟩ (.slice (some ⟨g,0,none⟩) (m+1) cp)).heap.size=w2.heap.size:=by simp
 have hM:DrM B a n z zs hi w w2:=h.m.grown (C:=w.heap.size+1) hB hg (fun k e=>(h.l _ (av k e).1).1) (Nat.lt_succ_self _);refine ⟨hM.set hB J _,c'',by rw [hs];exact q1.higher (by omega),?_⟩;have:=h.bulk;have:=hb.bulk;omega
theorem BtI.wp {B:Nat} {a:Option Addr} {n z:Nat} {zs:List Int} {hi:Nat} {w:World} {X:Nat} {c:CN} {L:List (Addr × IntKind)} {w1:World} (h:BtI B a n z zs hi w X c L w1) {b o d:Nat} {c':CN} {L':List (Addr × IntKind)} (hb:Bent w1 X 4 c L b o d c' L'):∃ k na nn nc ra rn rc ka kn kc,WpV B a n z zs hi w X k na nn nc ra rn rc ka kn kc 4 256 w1:=by
 obtain ⟨k,na,nn,nc,ra,rn,rc,ka,kn,kc,q⟩:=h.box;obtain ⟨v0,v1,v2,v3,c0,c1,c2,c3,hr⟩:=hb.own;obtain ⟨x0,x1,x2,x3⟩:=q.cells;refine ⟨k,na,nn,nc,ra,rn,rc,ka,kn,kc,h.m,h.x.1,q,c,L,?_,fun x hx=>⟨(h.l x hx).1,hb.nm x hx,(h.l x hx).2⟩,h.bulk⟩;rw [x0] at c0;rw [x1] at c1;rw [x2] at c2;rw [x3] at c3;simp only [Option.some.injEq] at c0 c1 c2 c3;rw [c0,c1,c2,c3];exact hr
theorem FnI.wp {B:Nat} {a:Option Addr} {n z:Nat} {zs:List Int} {hi:Nat} {w:World} {X:Nat} {k:Int} {na:Option Addr} {nn nc:Nat} {ra:Option Addr} {rn rc:Nat} {ka:Option Addr} {kn kc:Nat} {D K:Nat} {wr:World} (h:WpV B a n z zs hi w X k na nn nc ra rn rc ka kn kc D K wr) (hD:D≤19) (hK:K≤100000):FnI B a n z zs hi w X wr:=by
 obtain ⟨c,L,hr,hL,hk⟩:=h.own;obtain ⟨x0,x1,x2,x3⟩:=h.box.cells;exact ⟨h.m,c,⟨_,_,_,_,x0,x1,x2,x3,(hr.lift hD).rd (fun x hx=>⟨(hL x hx).1,(hL x hx).2.2⟩)⟩,by omega⟩
theorem Bent.frz {w:World} {X D:Nat} {c:CN} {L:List (Addr × IntKind)} {b o d:Nat} {c':CN} {L':List (Addr × IntKind)} (h:Bent w X D c L b o d c' L') {bk ok kn kc:Nat} (h1:w.cell? ⟨b,o+3,none⟩=some (.slice (some ⟨bk,ok,none⟩) kn kc)) (i:Nat):w.frozen? ⟨bk,i,none⟩=false:=by
 cases d with
 | zero =>
  obtain ⟨v0,v1,v2,v3,_,_,_,_,hr⟩:=h.sub;exact hr.elim
 | succ d =>
  obtain ⟨n,xs,q1,_,_⟩:=h.wh _ h1;rcases q1.2 with ⟨q,_⟩ | ⟨g,z,cur,q,_,hg,_⟩
  · simp at q
  simp only [Value.slice.injEq,Option.some.injEq,Addr.mk.injEq,and_true] at q;obtain ⟨⟨rfl,_⟩,_⟩:=q;simp [World.frozen?,hg]
set_option maxRecDepth 100000 in
set_option maxHeartbeats 6000000 in
theorem l2bent_any {w:World} {B:Nat} {a:Option Addr} {n z:Nat} {zs:List Int} {hi:Nat} (c:Cur w B a n z zs hi) :
    Calls Tryz.prog 38 #[.pointer (some ⟨B,0,none⟩)] w (BnP B a n z zs hi w):=by
 have hB:=c.lt;have bB:Below w.heap.size w (w.alloc (.cells #[.int .i64 0,.slice none 0 0,.slice none 0 0,.slice none 0 0] 37)):=(Below.refl _ _).alloc (Nat.le_refl _) _;obtain ⟨W0,bJ⟩:∃ W,Hid (W=w.alloc (.cells #[.int .i64 0,.slice none 0 0,.slice none 0 0,.slice none 0 0] 37)):=⟨_,rfl⟩;have aJ:Hid (DrM B a n z zs hi w W0):=by unfold Hid;rw [bJ.out];exact ⟨c.of (bB.mono hB),Bt.of_below bB,BoxC.new w _ _ _ _⟩
 clear bB c;go_enter Tryz.func38, Tryz.ntmps38;go_wp2_with fail;rw [← bJ.out];refine (l2draw_any 3 (by omega) aJ.out.cur).mono ?_;rintro e w1 hD;obtain ⟨y0,y1,y2,y3,c,L,rfl,hO,bC,cd,_,ch,a9⟩:=hD;obtain ⟨aQ,⟨na,nn,nc,bj⟩,⟨ra,rn,rc,bi⟩,⟨ka,kn,kc,a7⟩⟩:=hO.ow.form;obtain ⟨k,hk⟩:∃ k,k=c.kind:=⟨_,rfl⟩;rw [← hk] at aQ;rw [aQ,bj,bi,a7] at hO;rw [a7] at bC;rw [aQ,bj,bi,a7];have cG:W0.heap.size=w.heap.size+1:=by rw [bJ.out];simp
 have cl:Hid (DrM B a n z zs hi w w1):=⟨ch,aJ.out.bt.trans (a9.mono aJ.out.bt.size),(a9.block _ aJ.out.box.lt (by omega)).trans aJ.out.box⟩;obtain ⟨W2,bH⟩:∃ W,Hid (W=w1.alloc (.cells #[.int .i64 k,.slice na nn nc,.slice ra rn rc,.slice ka kn kc] 37)):=⟨_,rfl⟩;have aU:Below w1.heap.size w1 W2:=by rw [bH.out];exact (Below.refl _ _).alloc (Nat.le_refl _) _
 have aG:Hid (BoxC W2 w1.heap.size (.int .i64 k) (.slice na nn nc) (.slice ra rn rc) (.slice ka kn kc)):=by unfold Hid;rw [bH.out];exact BoxC.new w1 _ _ _ _
 have ax:∀ x∈L,w.heap.size<x.1.block∧x.1.block<w1.heap.size:=by
  intro x hx;rcases hO.us x hx with ⟨q1,q2⟩ | ⟨t,_,_,q,_⟩
  · omega
  simp at q
 have bz:∀ x∈L,W2.heap[x.1.block]?=w1.heap[x.1.block]?:=fun x hx=>aU.block _ (ax x hx).2
 have aL:Hid (BtI B a n z zs hi w w1.heap.size c L W2):=⟨cl.out.below hB aU,⟨cl.out.box.lt,aG.out.lt⟩,fun x hx=>⟨(ax x hx).1,by have:=(ax x hx).2;have:=aU.size;omega⟩,cd,⟨_,_,_,_,_,_,_,_,_,_,aG.out⟩⟩
 have cm:Hid (Bent W2 w1.heap.size 4 c L w1.heap.size 0 4 c L):=by
  obtain ⟨x0,x1,x2,x3⟩:=aG.out.cells;have hs:OwS W2 4 w1.heap.size 0 c L:=⟨_,_,_,_,x0,x1,x2,x3,hO.ow.keep bz⟩;have hn:∀ x∈L,x.1.block≠w1.heap.size:=fun x hx=>by have:=(ax x hx).2;omega
  exact ⟨hs,hO.nd,hn,.here _ _,hs,fun x hx=>hx,hO.nd,fun hm=>by obtain ⟨x,hx,e⟩:=List.mem_map.1 hm;exact hn x hx (by rw [e]),.inl rfl,fun u hu=>by rw [x3] at hu;simp only [Option.some.injEq] at hu;subst hu;exact bC.keep bz,Nat.le_refl _⟩
 clear hO bC cd ch a9 aQ bj bi a7 hk aU ax bz cG;go_wp2_with fail
 try dsimp only
 rw [← bH.out];refine (l1Once_any aL.out.m.cur 6 (by omega)).mono ?_;rintro e w3 ⟨y,rfl,aB,bx⟩;obtain ⟨c7,cg⟩:=aL.out.only hB aB bx cm.out;have G:Hid (BtI B a n z zs hi w w1.heap.size c L w3):=c7;have bO:Hid (Bent w3 w1.heap.size 4 c L w1.heap.size 0 4 c L):=cg;have cj:Hid (BoxC w3 w1.heap.size (.int .i64 k) (.slice na nn nc) (.slice ra rn rc) (.slice ka kn kc)):=(bx.other _ aL.out.x.2 (by have:=aL.out.x.1;omega)).trans aG.out;clear c7 cg aB bx aL cm aG;cases y
 · obtain ⟨x0,x1,x2,x3⟩:=cj.out.cells;obtain ⟨z0,z1,z2,z3⟩:=G.out.m.box.cells;have cu:=G.out.m.box.frz 0;have ct:=G.out.m.box.frz 1;have cr:=G.out.m.box.frz 2;have cq:=G.out.m.box.frz 3;go_wp2;obtain ⟨bD,bE⟩:=set4_mem G.out.m.box (.int .i64 k) (.slice na nn nc) (.slice ra rn rc) (.slice ka kn kc) G.out.m.bt (Nat.le_refl _);obtain ⟨s0,s1,s2,s3⟩:=bD.cells;refine bodyPost_ret (v:=.agg #[.int .i64 k,.slice na nn nc,.slice ra rn rc,.slice ka kn kc]) (by simp [results, Tryz.results38,go_sem,s0,s1,s2,s3]) rfl ?_;obtain ⟨u0,u1,u2,u3,c0,c1,c2,c3,hr⟩:=bO.out.own
   have e0:Value.agg #[u0,u1,u2,u3]=.agg #[.int .i64 k,.slice na nn nc,.slice ra rn rc,.slice ka kn kc]:=by
    rw [x0] at c0;rw [x1] at c1;rw [x2] at c2;rw [x3] at c3;simp only [Option.some.injEq] at c0 c1 c2 c3;rw [c0,c1,c2,c3]
   rw [e0] at hr;have cI:=hr.keep (w':=((((w3.setCell ⟨w.heap.size,0,none⟩ (.int .i64 k)).setCell ⟨w.heap.size,1,none⟩ (.slice na nn nc)).setCell ⟨w.heap.size,2,none⟩ (.slice ra rn rc)).setCell ⟨w.heap.size,3,none⟩ (.slice ka kn kc))) (fun x hx=>heap_set4 _ _ _ _ _ (by have:=(G.out.l x hx).1;omega));exact ⟨_,c,rfl,((cI.lift (by omega:4≤20)).rd (fun x hx=>⟨by have:=(G.out.l x hx).1;omega,by have:=(G.out.l x hx).2;simpa using this⟩)),by have:=G.out.bulk;omega,G.out.m.cur.keepB (fun q hq=>heap_set4 _ _ _ _ _ (by omega)),bE⟩
 clear cj;go_upto_block 0 with fail
 go_cut [4] from 13 to 34 (fun p wc=>LpI B a n z zs hi w w1.heap.size c L p wc)
 case first =>
  go_wp2_with fail;go_loopw [4] (fun p wr=>LpI B a n z zs hi w w1.heap.size c L p wr) (fun p wr=>dep w1.heap.size 4 c L wr p)
  case atStart=>exact ⟨_,_,_,_,_,rfl,G.out,bO.out,Nat.le_refl 4,fun i=>by obtain ⟨k,na,nn,nc,ra,rn,rc,ka,kn,kc,q⟩:=G.out.box;exact q.frz i⟩
  case round =>
   obtain ⟨b,o,d0,dB,L0',rfl,ay,aE,aT,az⟩:=hrel;obtain ⟨⟨c',L',ab⟩,cR⟩:=dep_spec aE;obtain ⟨d,hd⟩:∃ d,d=dep w1.heap.size 4 c L wr (.pointer (some ⟨b,o,none⟩)):=⟨_,rfl⟩;rw [← hd] at ab;have a5:Hid (d≤4):=by unfold Hid;rw [hd];omega
   have HD:Hid (d=dep w1.heap.size 4 c L wr (.pointer (some ⟨b,o,none⟩))):=hd;have N:Hid (BtI B a n z zs hi w w1.heap.size c L wr):=ay;have a6:Hid (Bent wr w1.heap.size 4 c L b o d c' L'):=ab;have aM:Hid (∀ i,wr.frozen? ⟨b,i,none⟩=false):=az;obtain ⟨la,ln,lc,aB,bY,cL⟩:=Bent.row a6.out;have d4:Hid (wr.cell? ⟨b,o+3,none⟩=some (.slice la ln lc)):=aB;have cW:Hid (ln=c'.kids.length):=bY;clear ay aE ab hd bY az aT cR;by_cases hl0:ln=0
   · subst hl0;go_wp2_with fail;go_meet
     case rel=>exact ⟨_,_,_,_,_,rfl,N.out,a6.out,a5.out,aM.out⟩
   have dh:(0:Int)<(ln:Int):=by omega
   obtain ⟨bk,ok,bR⟩:=cL (by omega);subst bR;go_wp2_with fail;refine (l1Once_any N.out.m.cur 2 (by omega)).mono ?_;rintro e w5 ⟨y,rfl,cc,aS⟩;obtain ⟨c6,cf⟩:=N.out.only hB cc aS a6.out;have a4:Hid (BtI B a n z zs hi w w1.heap.size c L w5):=c6;have aX:Hid (Bent w5 w1.heap.size 4 c L b o d c' L'):=cf
   have aa:w5.heap[b]?=wr.heap[b]?:=by
    rcases a6.out.at_ with e | e
    · rw [e];exact aS.other _ N.out.x.2 (by have:=N.out.x.1;omega)
    exact aS.other _ (N.out.l _ e).2 (by have hq:w.heap.size<b:=(N.out.l _ e).1;show b≠B;omega)
   have bU:w5.cell? ⟨b,o+3,none⟩=some (.slice (some ⟨bk,ok,none⟩) ln lc):=(World.cell?_of_block (w:=wr) aa).trans d4.out;have cZ:Hid (∀ i,w5.frozen? ⟨b,i,none⟩=false):=fun i=>(World.frozen?_of_block (w:=wr) aa).trans (aM.out i)
   clear c6 cf cc aS aB aa;cases y
   · go_wp2_with fail;go_meet
     case rel=>exact ⟨_,_,_,_,_,rfl,a4.out,aX.out,a5.out,cZ.out⟩
   have co:ln≤256:=by
    have:=aX.out.bulk;have:=a4.out.bulk;have:=c'.bulk_eq;have:=length_le_bulks c'.kids;have:=cW.out;omega
   go_wp2_with fail;go_region_law (go_simp;refine (l1Below_any (a4.out.m.cur.keepB (w':=w5.drew) (fun _ _=>rfl)) ln (by omega)).mono ?_;rintro e w6 ⟨x,rfl,⟨ap,ao⟩,cb,aR⟩;obtain ⟨j,hj⟩:∃ j:Nat,x=(j:Int):=⟨x.toNat,by omega⟩;subst hj;have bN:Hid (BtI B a n z zs hi w w1.heap.size c L w6∧Bent w6 w1.heap.size 4 c L b o d c' L'):=a4.out.only hB cb ((Only.refl B w5).drew.trans aR) aX.out;have aO:w6.cell? ⟨b,o+3,none⟩=some (.slice (some ⟨bk,ok,none⟩) ln lc):=(World.cell?_of_block (w:=w5) (by show w6.heap[b]?=w5.heap[b]?;rcases aX.out.at_ with e | e;(· rw [e];exact ((Only.refl B w5).drew.trans aR).other _ a4.out.x.2 (by have:=a4.out.x.1;omega));(· exact ((Only.refl B w5).drew.trans aR).other _ (a4.out.l _ e).2 (by have hq:w.heap.size<b:=(a4.out.l _ e).1;show b≠B;omega)))).trans bU;have cM:j<ln:=(by omega);clear cb aR)
   all_goals
    go_wp2_with fail
    have HN:Hid (LpI B a n z zs hi w w1.heap.size c L (.pointer (some ⟨bk,ok+j*4,none⟩)) w6∧dep w1.heap.size 4 c L w6 (.pointer (some ⟨bk,ok+j*4,none⟩))<dep w1.heap.size 4 c L wr (.pointer (some ⟨b,o,none⟩))):=by
     obtain ⟨e,L2,he,_,hb⟩:=bN.out.2.step aO cM;refine ⟨⟨_,_,_,_,_,rfl,bN.out.1,hb,by have:=a5.out;omega,Bent.frz bN.out.2 aO⟩,?_⟩;have h1:=(dep_spec hb).2;have h2:=HD.out;exact Nat.lt_of_le_of_lt h1 (by rw [← h2];omega)
    go_roundw
    case rel=>first | exact HN.out.1 | ((repeat apply Exists.intro);exact ⟨HN.out.1,rfl⟩)
    case measure=>exact HN.out.2
 case rest =>
  obtain ⟨b,o,d,c',L',rfl,ay,aE,aT,az⟩:=hcut;have N:Hid (BtI B a n z zs hi w w1.heap.size c L wc):=ay;have a6:Hid (Bent wc w1.heap.size 4 c L b o d c' L'):=aE;have aM:Hid (∀ i,wc.frozen? ⟨b,i,none⟩=false):=az;have a5:Hid (d≤4):=aT;clear ay aE az aT G bO;go_wp2_with fail;refine (l1Below_any N.out.m.cur 6 (by omega)).mono ?_;rintro e w7 ⟨m,rfl,⟨de,dd⟩,ca,bu⟩;obtain ⟨c5,ce⟩:=N.out.only hB ca bu a6.out;have I:Hid (BtI B a n z zs hi w w1.heap.size c L w7):=c5;have H:Hid (Bent w7 w1.heap.size 4 c L b o d c' L'):=ce;have aW:Hid (∀ i,w7.frozen? ⟨b,i,none⟩=false):=fun i=>(World.frozen?_of_block (w:=wc) (N.out.keepy a6.out hB bu)).trans (aM.out i)
  clear c5 ce ca bu N a6 aM;have J:w.heap.size<b:=I.out.yb H.out;go_upto_block 2 with fail
  go_cut [5,6] from 37 to 96 (fun _ _ wx=>FnI B a n z zs hi w w1.heap.size wx)
  case first =>
   by_cases h0:m=0
   · subst h0;go_wp2_with fail;refine (l1Below_any I.out.m.cur 10 (by omega)).mono ?_;rintro e w8 ⟨x,rfl,⟨ap,ao⟩,c9,bs⟩;obtain ⟨c4,O⟩:=I.out.only hB c9 bs H.out;have cX:Hid (BtI B a n z zs hi w w1.heap.size c L w8):=c4;have d6:Hid (Bent w8 w1.heap.size 4 c L b o d c' L'):=O;obtain ⟨v0,v1,v2,v3,y0,y1,y2,y3,_⟩:=O.sub;have yf:=(World.frozen?_of_block (w:=w7) (a:=⟨b,o,none⟩) (I.out.keepy H.out hB bs)).trans (aW.out o);obtain ⟨kd,dk⟩:∃ kd:Int,IntKind.i64.wrap (x - 1)=kd:=⟨_,rfl⟩;clear c4 O c9 bs;go_wp2_with fail;go_meet
     case rel =>
      exact FnI.kind cX.out d6.out a5.out hB J kd
   have dr:(m == 0)=false:=by simpa using h0
   by_cases h1:m=1
   · subst h1;obtain ⟨W8,a0⟩:∃ W,Hid (W=w7.alloc (.cells #[.string { data:=#[] },.string { data:=#[65] },.string { data:=#[65,110,100] },.string { data:=#[81,49] },.string { data:=#[97] }] 9)):=⟨_,rfl⟩;have O:Below w7.heap.size w7 W8:=by rw [a0.out];exact (Below.refl _ _).alloc (Nat.le_refl _) _
     have bq:w7.heap.size<W8.heap.size:=by rw [a0.out];simp
     have bF:Hid (∀ i:Nat,i<5→∃ s:ByteArray,W8.cell? ⟨w7.heap.size,i,none⟩=some (.string s)∧s.size≤3):=by
      intro i hi;rw [a0.out]
      match i,hi with
      | 0,_ | 1,_ | 2,_ | 3,_ | 4,_=>exact ⟨_,by simp;rfl,by decide⟩
     have T:Hid (BtI B a n z zs hi w w1.heap.size c L W8∧Bent W8 w1.heap.size 4 c L b o d c' L'):=I.out.below hB O H.out;have am:b<w7.heap.size:=I.out.yl H.out;have bM:Hid (∀ i,W8.frozen? ⟨b,i,none⟩=false):=fun i=>(World.frozen?_of_block (w:=w7) (O.block _ am)).trans (aW.out i)
     clear O;go_wp2_with fail;rw [← a0.out];refine (l1Below_any T.out.1.m.cur 5 (by omega)).mono ?_;rintro e w9 ⟨x,rfl,⟨ap,ao⟩,aA,Y⟩;obtain ⟨j,hj⟩:∃ j:Nat,x=(j:Int):=⟨x.toNat,by omega⟩;subst hj;have bA:j<5:=by omega
     obtain ⟨s,ar,cE⟩:=bF.out j bA;have bP:w9.cell? ⟨w7.heap.size,j,none⟩=some (.string s):=(World.cell?_of_block (w:=W8) (Y.other w7.heap.size bq (by omega))).trans ar;have a1:Hid (BtI B a n z zs hi w w1.heap.size c L w9∧Bent w9 w1.heap.size 4 c L b o d c' L'):=T.out.1.only hB aA Y T.out.2;have bL:Hid (∀ i,w9.frozen? ⟨b,i,none⟩=false):=fun i=>(World.frozen?_of_block (w:=W8) (T.out.1.keepy T.out.2 hB Y)).trans (bM.out i)
     have cN:(j:Int)<5:=by omega
     obtain ⟨Wx,Z⟩:∃ W,Hid (W=Lib.bytesWorld w9 5 s):=⟨_,rfl⟩;obtain ⟨cp,aN⟩:∃ cp,Hid (cp=grownCap w9 s.size 0 5):=⟨_,rfl⟩
     have cS:(convert 9 22 (.string s)).run Tryz.prog w9=.ok (.slice (some ⟨w9.heap.size,0,none⟩) s.size cp) Wx:=by
      rw [Z.out,aN.out];exact Lib.run_convert_string_bytes w9 9 22 5 s Tryz.underlying9 Tryz.underlying22 Tryz.underlying5
     have V:Below w9.heap.size w9 Wx:=by rw [Z.out];exact bytes_below w9 5 s
     have bp:w9.heap.size<Wx.heap.size:=by rw [Z.out,Lib.bytesWorld_size];omega
     have a8:Hid (BtI B a n z zs hi w w1.heap.size c L Wx∧Bent Wx w1.heap.size 4 c L b o d c' L'):=a1.out.1.below hB V a1.out.2;have aD:b<w9.heap.size:=a1.out.1.yl a1.out.2;have yf:=(World.frozen?_of_block (w:=w9) (a:=⟨b,o+1,none⟩) (V.block _ aD)).trans (bL.out (o+1));have an:Hid (RolR Wx (.slice (some ⟨w9.heap.size,0,none⟩) s.size cp) (numsOf s) w9.heap.size):=by unfold Hid;rw [Z.out,aN.out];exact rol_conv w9 s (by omega)
     obtain ⟨v0,v1,v2,v3,y0,y1,y2,y3,_⟩:=a8.out.2.sub;clear ar aA Y V ap ao;go_wp2_with fail;go_meet
     case rel=>exact FnI.name a8.out.1 a8.out.2 a5.out hB J an.out aD bp (by rw [numsOf_len];omega)
   have dq:(m == 1)=false:=by simpa using h1
   by_cases h2:m=2
   · subst h2;obtain ⟨W8,a0⟩:∃ W,Hid (W=w7.alloc (.cells #[.string { data:=#[] },.string { data:=#[114] },.string { data:=#[82] }] 9)):=⟨_,rfl⟩;have O:Below w7.heap.size w7 W8:=by rw [a0.out];exact (Below.refl _ _).alloc (Nat.le_refl _) _
     have bq:w7.heap.size<W8.heap.size:=by rw [a0.out];simp
     have bF:Hid (∀ i:Nat,i<3→∃ s:ByteArray,W8.cell? ⟨w7.heap.size,i,none⟩=some (.string s)∧s.size≤3):=by
      intro i hi;rw [a0.out]
      match i,hi with
      | 0,_ | 1,_ | 2,_=>exact ⟨_,by simp;rfl,by decide⟩
     have T:Hid (BtI B a n z zs hi w w1.heap.size c L W8∧Bent W8 w1.heap.size 4 c L b o d c' L'):=I.out.below hB O H.out;have am:b<w7.heap.size:=I.out.yl H.out;have bM:Hid (∀ i,W8.frozen? ⟨b,i,none⟩=false):=fun i=>(World.frozen?_of_block (w:=w7) (O.block _ am)).trans (aW.out i)
     clear O;go_wp2_with fail;rw [← a0.out];refine (l1Below_any T.out.1.m.cur 3 (by omega)).mono ?_;rintro e w9 ⟨x,rfl,⟨ap,ao⟩,aA,Y⟩;obtain ⟨j,hj⟩:∃ j:Nat,x=(j:Int):=⟨x.toNat,by omega⟩;subst hj;have bA:j<3:=by omega
     obtain ⟨s,ar,cE⟩:=bF.out j bA;have bP:w9.cell? ⟨w7.heap.size,j,none⟩=some (.string s):=(World.cell?_of_block (w:=W8) (Y.other w7.heap.size bq (by omega))).trans ar;have a1:Hid (BtI B a n z zs hi w w1.heap.size c L w9∧Bent w9 w1.heap.size 4 c L b o d c' L'):=T.out.1.only hB aA Y T.out.2;have bL:Hid (∀ i,w9.frozen? ⟨b,i,none⟩=false):=fun i=>(World.frozen?_of_block (w:=W8) (T.out.1.keepy T.out.2 hB Y)).trans (bM.out i)
     have cN:(j:Int)<3:=by omega
     obtain ⟨Wx,Z⟩:∃ W,Hid (W=Lib.bytesWorld w9 5 s):=⟨_,rfl⟩;obtain ⟨cp,aN⟩:∃ cp,Hid (cp=grownCap w9 s.size 0 5):=⟨_,rfl⟩
     have cS:(convert 9 22 (.string s)).run Tryz.prog w9=.ok (.slice (some ⟨w9.heap.size,0,none⟩) s.size cp) Wx:=by
      rw [Z.out,aN.out];exact Lib.run_convert_string_bytes w9 9 22 5 s Tryz.underlying9 Tryz.underlying22 Tryz.underlying5
     have V:Below w9.heap.size w9 Wx:=by rw [Z.out];exact bytes_below w9 5 s
     have bp:w9.heap.size<Wx.heap.size:=by rw [Z.out,Lib.bytesWorld_size];omega
     have a8:Hid (BtI B a n z zs hi w w1.heap.size c L Wx∧Bent Wx w1.heap.size 4 c L b o d c' L'):=a1.out.1.below hB V a1.out.2;have aD:b<w9.heap.size:=a1.out.1.yl a1.out.2;have yf:=(World.frozen?_of_block (w:=w9) (a:=⟨b,o+2,none⟩) (V.block _ aD)).trans (bL.out (o+2));have an:Hid (RolR Wx (.slice (some ⟨w9.heap.size,0,none⟩) s.size cp) (numsOf s) w9.heap.size):=by unfold Hid;rw [Z.out,aN.out];exact rol_conv w9 s (by omega)
     obtain ⟨v0,v1,v2,v3,y0,y1,y2,y3,_⟩:=a8.out.2.sub;clear ar aA Y V ap ao;go_wp2_with fail;go_meet
     case rel=>exact FnI.role a8.out.1 a8.out.2 a5.out hB J an.out aD bp (by rw [numsOf_len];omega)
   have dp:(m == 2)=false:=by simpa using h2
   by_cases h3:m=3
   · subst h3;obtain ⟨ka',kn',kc',a7,bS,bT⟩:=Bent.row H.out
     obtain ⟨e0,c8⟩:∃ e0,d=e0+1:=by
      cases d with
      | zero=>obtain ⟨_,_,_,_,_,_,_,_,q⟩:=H.out.sub;exact q.elim
      | succ d=>exact ⟨d,rfl⟩
     have a2:=H;rw [c8] at a2;obtain ⟨nk,xs,E,av,_⟩:=a2.out.wh _ a7
     have cK:nk=kn':=by
      rcases E.2 with ⟨q,rfl⟩ | ⟨_,_,_,q,_⟩
      · simp only [Value.slice.injEq] at q;exact q.2.1.symm
      simp only [Value.slice.injEq] at q;exact q.2.1.symm
     subst cK
     have cn:nk≤256:=by
      have:=H.out.bulk;have:=I.out.bulk;have:=c'.bulk_eq;have:=length_le_bulks c'.kids;omega
     have ck:Hid (∀ g,(Value.slice ka' nk kc').ownBlock=some g→((⟨g,0,none⟩,.i64):Addr × IntKind)∈L∧∀ x∈L,x.1.block=g→x.1.off+4≤nk*4):=av;obtain ⟨Wa,aV⟩:∃ W,Hid (W=(w7.alloc (.cells #[.int .i64 0,.slice none 0 0,.slice none 0 0,.slice none 0 0] 37)).drew):=⟨_,rfl⟩;have aC:Below w7.heap.size w7 Wa:=by rw [aV.out];exact ((Below.refl w7.heap.size w7).alloc (Nat.le_refl _) _).drew
     have dc:Wa.heap.size=w7.heap.size+1:=by rw [aV.out];simp
     have aI:Hid (BtI B a n z zs hi w w1.heap.size c L Wa∧Bent Wa w1.heap.size 4 c L b o (e0+1) c' L'):=I.out.below hB aC a2.out;have am:b<w7.heap.size:=I.out.yl H.out;have cY:Hid (∀ i,Wa.frozen? ⟨b,i,none⟩=false):=fun i=>(World.frozen?_of_block (w:=w7) (aC.block _ am)).trans (aW.out i)
     have ci:Hid (Wa.cell? ⟨b,o+3,none⟩=some (.slice ka' nk kc')):=(World.cell?_of_block (w:=w7) (aC.block _ am)).trans a7;have bK:Hid (Wa.ownsRow 0 37 4 (.slice ka' nk kc') nk xs):=ownsRow_keepW E (fun g hg=>aC.block _ (E.lt g hg).2);have cV:Hid (∀ j u,zero4[j]?=some u→Wa.cell? ((⟨w7.heap.size,0,none⟩:Addr).add j)=some u):=by unfold Hid;rw [aV.out];exact new4 _ _ _ _ _ _ _ rfl
     obtain ⟨i0,cO,cD,cC,cB⟩:=info_parts Tryz.infoCon4;have di:(nk:Int)<(nk:Int)+1:=by omega
     have bV:Hid (e0+1≤4):=by unfold Hid;rw [← c8];exact a5.out
     clear av E bS bT aC a2;go_wp2_with fail
     go_region_law
      (first
      | (try rw [← aV.out];refine step_append_keep (w:=Wa) rfl (.tmp 80) (.tmp 83) 35 rfl 0 37 i0 (.agg #[.int .i64 0,.slice none 0 0,.slice none 0 0,.slice none 0 0]) 4 80 Tryz.underlying35 cO cD cC cB rfl (by decide) (.slice ka' nk kc') nk xs (by first | rfl | (simp [Act.eval];done) | simp [Act.eval,Act.put]) bK.out ⟨w7.heap.size,0,none⟩ 1 1 zero4 (by first | rfl | (simp [Act.eval];done) | simp [Act.eval,Act.put]) rfl cV.out (one4 _ _ _ _ _ _ _ _ _ _) (by decide) (by unfold maxLen;omega) (by omega) (Nat.zero_le _) ?_;intro g1 aP w9 E U aF bQ;have cU:Hid (FnI B a n z zs hi w w1.heap.size (w9.setCell ⟨b,o+3,none⟩ (.slice (some ⟨g1,0,none⟩) (nk+1) aP))):=FnI.kids aI.out.1 aI.out.2 bV.out hB J ci.out bK.out ck.out E U aF bQ;obtain ⟨⟨y3,d7⟩,⟨dA,dz,dy,dx⟩,bW,au,cQ,_⟩:=kid_facts aI.out.2 aI.out.1.x.2 (fun x hx=>aI.out.1.l x hx) ci.out cY.out bK.out ck.out E U aF;obtain ⟨⟨r0,r1,r2,r3⟩,dv,du,dt,ds⟩:=kid_facts2 (b:=b) (o:=o) (v:=.slice (some ⟨g1,0,none⟩) (nk+1) aP) cQ bW;obtain ⟨q0,q1,q2,q3⟩:=bW;have db:=au (nk*4);have da:=au (nk*4+1);have d9:=au (nk*4+2);have d8:=au (nk*4+3);clear E U aF au))
     all_goals
      go_wp2_with fail;go_meet
      case rel=>exact cU.out
   have dn:(m == 3)=false:=by simpa using h3
   by_cases h4:m=4
   · subst h4;obtain ⟨k0,be,bc,bd,bb,b9,ba,bh,bf,bg,aq⟩:=I.out.wp H.out;have bG:Hid (WpV B a n z zs hi w w1.heap.size k0 be bc bd bb b9 ba bh bf bg 4 256 w7):=aq;clear aq;go_wp2_with fail;go_loopw [5] (fun q wr=>∃ (t:Nat) (K:Nat) (k:Int) (na:Option Addr) (nn nc:Nat) (ra:Option Addr) (rn rc:Nat) (ka:Option Addr) (kn kc:Nat),t≤6∧q=.int .i64 t∧K≤256+t∧WpV B a n z zs hi w w1.heap.size k na nn nc ra rn rc ka kn kc (4+t) K wr) (fun q _=>6 - (intOf q).toNat)
     case atStart=>exact ⟨0,256,_,_,_,_,_,_,_,_,_,_,Nat.zero_le _,rfl,by omega,bG.out⟩
     case round =>
      obtain ⟨t,K,k1,ai,ag,ah,af,ad,ae,al,aj,ak,ht,rfl,hK,F⟩:=hrel;have aH:Hid (WpV B a n z zs hi w w1.heap.size k1 ai ag ah af ad ae al aj ak (4+t) K wr):=F;have aK:Hid (K≤256+t):=hK;obtain ⟨x0,x1,x2,x3⟩:=F.box.cells;have cA:=F.box.frz 0;have cz:=F.box.frz 1;have cy:=F.box.frz 2;have cv:=F.box.frz 3;have cT:w1.heap.size<wr.heap.size:=F.box.lt;clear F hK;by_cases hlt:t<6
      · have bo:(t:Int)<6:=by omega
        have ac:Hid (WpV B a n z zs hi w w1.heap.size 3 none 0 0 none 0 0 (some ⟨wr.heap.size,0,none⟩) 1 1 (4+t+1) (1*(1+K)) (((((wr.setCell ⟨w1.heap.size,0,none⟩ (.int .i64 3)).setCell ⟨w1.heap.size,1,none⟩ (.slice none 0 0)).setCell ⟨w1.heap.size,2,none⟩ (.slice none 0 0)).setCell ⟨w1.heap.size,3,none⟩ (.slice (some ⟨wr.heap.size,0,none⟩) 1 1)).alloc (.cells #[.int .i64 k1,.slice ai ag ah,.slice af ad ae,.slice al aj ak] 37))):=aH.out.wrap hB 3 _ 1 (by omega) (fun i hi=>by
         match i,hi with
         | 0,_=>exact ⟨rfl,rfl,rfl,rfl⟩)
        go_wp2_with fail;go_roundw
        case rel=>exact ⟨t+1,1*(1+K),_,_,_,_,_,_,_,_,_,_,by omega,by go_num,by have:=aK.out;omega,ac.out⟩
        case measure=>simp [intOf];omega
      have bo:¬ (t:Int)<6:=by omega
      have bm:t=6:=by omega
      subst bm;go_wp2_with fail;go_meet
      case rel=>exact FnI.wp aH.out (by omega) (by have:=aK.out;omega)
   have dm:(m == 4)=false:=by simpa using h4
   obtain ⟨k0,be,bc,bd,bb,b9,ba,bh,bf,bg,aq⟩:=I.out.wp H.out;have bG:Hid (WpV B a n z zs hi w w1.heap.size k0 be bc bd bb b9 ba bh bf bg 4 256 w7):=aq;clear aq;go_wp2_with fail;go_loopw [6] (fun q wr=>∃ (t:Nat) (K:Nat) (k:Int) (na:Option Addr) (nn nc:Nat) (ra:Option Addr) (rn rc:Nat) (ka:Option Addr) (kn kc:Nat),t≤3∧q=.int .i64 t∧K+2≤258*2 ^ t∧WpV B a n z zs hi w w1.heap.size k na nn nc ra rn rc ka kn kc (4+t) K wr) (fun q _=>3 - (intOf q).toNat)
   case atStart=>exact ⟨0,256,_,_,_,_,_,_,_,_,_,_,Nat.zero_le _,rfl,by omega,bG.out⟩
   case round =>
    obtain ⟨t,K,k1,ai,ag,ah,af,ad,ae,al,aj,ak,ht,rfl,hK,F⟩:=hrel;have aH:Hid (WpV B a n z zs hi w w1.heap.size k1 ai ag ah af ad ae al aj ak (4+t) K wr):=F;have aK:Hid (K+2≤258*2 ^ t):=hK;obtain ⟨x0,x1,x2,x3⟩:=F.box.cells;have cA:=F.box.frz 0;have cz:=F.box.frz 1;have cy:=F.box.frz 2;have cv:=F.box.frz 3;have cT:w1.heap.size<wr.heap.size:=F.box.lt;clear F hK;by_cases hlt:t<3
    · have bo:(t:Int)<3:=by omega
      have ac:Hid (WpV B a n z zs hi w w1.heap.size 4 none 0 0 none 0 0 (some ⟨wr.heap.size,0,none⟩) 2 2 (4+t+1) (2*(1+K)) (((((wr.setCell ⟨w1.heap.size,0,none⟩ (.int .i64 4)).setCell ⟨w1.heap.size,1,none⟩ (.slice none 0 0)).setCell ⟨w1.heap.size,2,none⟩ (.slice none 0 0)).setCell ⟨w1.heap.size,3,none⟩ (.slice (some ⟨wr.heap.size,0,none⟩) 2 2)).alloc (.cells #[.int .i64 k1,.slice ai ag ah,.slice af ad ae,.slice al aj ak,.int .i64 k1,.slice ai ag ah,.slice af ad ae,.slice al aj ak] 37))):=aH.out.wrap hB 4 _ 2 (by omega) (fun i hi=>by
       match i,hi with
       | 0,_ | 1,_=>exact ⟨rfl,rfl,rfl,rfl⟩)
      go_wp2_with fail;go_roundw
      case rel=>exact ⟨t+1,2*(1+K),_,_,_,_,_,_,_,_,_,_,by omega,by go_num,by have:=aK.out;rw [Nat.pow_succ];omega,ac.out⟩
      case measure=>simp [intOf];omega
    have bo:¬ (t:Int)<3:=by omega
    have bm:t=3:=by omega
    subst bm;go_wp2_with fail;go_meet
    case rel=>exact FnI.wp aH.out (by omega) (by have:=aK.out;omega)
  case rest =>
   obtain ⟨bX,cx,cH,V⟩:=hcut;have a3:Hid (DrM B a n z zs hi w wc):=bX;have d5:Hid (cx.bulk≤100000):=V;obtain ⟨v0,v1,v2,v3,x0,x1,x2,x3,hr⟩:=cH;have an:Hid (RdC (w.heap.size+1) wc.heap.size wc 19 (.agg #[v0,v1,v2,v3]) cx):=hr;obtain ⟨rfl,⟨b5,b3,b4,rfl⟩,⟨b2,aY,aZ,rfl⟩,⟨b8,b6,b7,rfl⟩⟩:=hr.formS;obtain ⟨k5,bZ⟩:∃ k5,k5=cx.kind:=⟨_,rfl⟩;rw [← bZ] at x0 an;obtain ⟨z0,z1,z2,z3⟩:=a3.out.box.cells;have cu:=a3.out.box.frz 0;have ct:=a3.out.box.frz 1;have cr:=a3.out.box.frz 2;have cq:=a3.out.box.frz 3;clear bX V hr bZ;go_wp2;obtain ⟨bD,bE⟩:=set4_mem a3.out.box (.int .i64 k5) (.slice b5 b3 b4) (.slice b2 aY aZ) (.slice b8 b6 b7) a3.out.bt (Nat.le_refl _);obtain ⟨s0,s1,s2,s3⟩:=bD.cells;refine bodyPost_ret (v:=.agg #[.int .i64 k5,.slice b5 b3 b4,.slice b2 aY aZ,.slice b8 b6 b7]) (by simp [results, Tryz.results38,go_sem,s0,s1,s2,s3]) rfl ?_;refine ⟨_,cx,rfl,?_,d5.out,a3.out.cur.keepB (fun q hq=>heap_set4 _ _ _ _ _ (by omega)),bE⟩;have cF:Same (w.heap.size+1) wc.heap.size wc ((((wc.setCell ⟨w.heap.size,0,none⟩ (.int .i64 k5)).setCell ⟨w.heap.size,1,none⟩ (.slice b5 b3 b4)).setCell ⟨w.heap.size,2,none⟩ (.slice b2 aY aZ)).setCell ⟨w.heap.size,3,none⟩ (.slice b8 b6 b7)):=fun q h1 h2=>heap_set4 _ _ _ _ _ (by omega)
   exact ((an.out.same cF).mono (Nat.le_succ _) (by simp)).higher (by omega)
end Go.Proofs.YtocpeiaolofodaaGreat
