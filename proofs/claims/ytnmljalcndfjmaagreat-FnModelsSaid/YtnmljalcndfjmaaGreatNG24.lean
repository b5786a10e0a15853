/- Several texts in one: ConAt, DrawAx0, BentWrap. -/
import Derived.Test.YtnmljalcndfjmaaGreatReadG
import Derived.Test.YtnmljalcndfjmaaGreatNG18
import Derived.Test.YtnmljalcndfjmaaGreatNG22
import Derived.Test.YtnmljalcndfjmaaGreatDrawCon2
import Derived.Test.YtnmljalcndfjmaaGreatNG6
import Derived.Test.YtnmljalcndfjmaaGreatNG23
namespace Go.Proofs.YtnmljalcndfjmaaGreat

section
open Go.RowKit
theorem ownC_shapeS {base:Nat} {w:World} {d:Nat} {v:Value} {c:CN} {L:List (Addr × IntKind)} (h:OwnC base w d v c L):∃ k na nn nc ra rn rc ka kn kc,v=.agg #[.int .i64 k,.slice na nn nc,.slice ra rn rc,.slice ka kn kc]:=by
 obtain ⟨na,nn,nc,ra,rn,rc,ka,kn,kc,e⟩:=h.ow.agg;exact ⟨_,na,nn,nc,ra,rn,rc,ka,kn,kc,e⟩
set_option maxRecDepth 100000 in
set_option maxHeartbeats 1000000 in
theorem con_any (s:ByteArray) (hs:s.size≤255) (Z:goodT (numsOf s)=true) (w:World) :
    Calls Tryz.prog 35 #[.string s] w fun e w'=>∃ v,e=.returned v∧RdC w.heap.size w'.heap.size w' 6 v (conRead (numsOf s)).1∧Below w.heap.size w w':=by
 obtain ⟨W0,N⟩:∃ W,Hid (W=w.alloc (.cells #[.int .i64 0,.slice none 0 0,.slice none 0 0,.slice none 0 0] 30)):=⟨_,rfl⟩;have V:Hid (Below w.heap.size w W0):=by unfold Hid;rw [N.out];exact (Below.refl _ _).alloc (Nat.le_refl _) _
 have T:Hid (BoxC W0 w.heap.size (.int .i64 0) (.slice none 0 0) (.slice none 0 0) (.slice none 0 0)):=by unfold Hid;rw [N.out];exact BoxC.new w _ _ _ _
 obtain ⟨Wx,G⟩:∃ W,Hid (W=Lib.bytesWorld W0 5 s):=⟨_,rfl⟩;obtain ⟨cp,U⟩:∃ cp,Hid (cp=grownCap W0 s.size 0 5):=⟨_,rfl⟩
 have a9:(convert 9 22 (.string s)).run Tryz.prog W0=.ok (.slice (some ⟨W0.heap.size,0,none⟩) s.size cp) Wx:=by
  rw [G.out,U.out];exact Lib.run_convert_string_bytes W0 9 22 5 s Tryz.underlying9 Tryz.underlying22 Tryz.underlying5
 have H:Below W0.heap.size W0 Wx:=by rw [G.out];exact bytes_below W0 5 s
 have X:W0.heap.size<Wx.heap.size:=by rw [G.out,Lib.bytesWorld_size];omega
 have a0:Hid (Rd 0 Wx.heap.size Wx (some ⟨W0.heap.size,0,none⟩) s.size cp (numsOf s)):=by
  have hr:RolR Wx (.slice (some ⟨W0.heap.size,0,none⟩) s.size cp) (numsOf s) W0.heap.size:=by rw [G.out,U.out];exact rol_conv W0 s hs
  obtain ⟨a',c',e,h3,_⟩:=hr;simp only [Value.slice.injEq] at e;obtain ⟨e1,e2,e3⟩:=e;rw [← e1,← e2,← e3] at h3;refine h3.rd (fun x hx=>?_);obtain ⟨j,hj,rfl⟩:=mem_leafB.1 hx;exact ⟨Nat.zero_le _,X⟩
 have O:Hid (Below w.heap.size w Wx):=V.out.trans (H.mono V.out.size);have F:Hid (BoxC Wx w.heap.size (.int .i64 0) (.slice none 0 0) (.slice none 0 0) (.slice none 0 0)):=T.out.below H T.out.lt;clear H;go_enter Tryz.func35, Tryz.ntmps35;go_upto_region 1 with fail;rw [← N.out];go_wp2_with fail;refine (specConReadG_any _ _ _ (numsOf s) Wx a0.out (Nat.le_refl _) Z).mono ?_;rintro e w2 hA;obtain ⟨v2,L2,rfl,I,D⟩:=hA;obtain ⟨k,na,nn,nc,ra,rn,rc,ka,kn,kc,rfl⟩:=ownC_shapeS I;obtain ⟨W3,J⟩:∃ W,Hid (W=w2.alloc (.cells #[.int .i64 k,.slice na nn nc,.slice ra rn rc,.slice ka kn kc] 30)):=⟨_,rfl⟩;have E:Below w2.heap.size w2 W3:=by rw [J.out];exact (Below.refl _ _).alloc (Nat.le_refl _) _
 have R:Hid (BoxC W3 w2.heap.size (.int .i64 k) (.slice na nn nc) (.slice ra rn rc) (.slice ka kn kc)):=by unfold Hid;rw [J.out];exact BoxC.new w2 _ _ _ _
 have y:Hid (BoxC W3 w.heap.size (.int .i64 0) (.slice none 0 0) (.slice none 0 0) (.slice none 0 0)):=(F.out.below D F.out.lt).below E (Nat.lt_of_lt_of_le F.out.lt D.size);have a1:Hid (RdC Wx.heap.size w2.heap.size W3 6 (.agg #[.int .i64 k,.slice na nn nc,.slice ra rn rc,.slice ka kn kc]) (conRead (numsOf s)).1):=I.rd.below E (Nat.le_refl _);have a2:Hid (Below w.heap.size w W3):=(O.out.trans (D.mono O.out.size)).trans (E.mono (Nat.le_trans O.out.size D.size));have a8:w2.heap.size<W3.heap.size:=R.out.lt;have a3:w.heap.size<Wx.heap.size:=F.out.lt;clear I D E;obtain ⟨y0,y1,y2,y3⟩:=R.out.cells;obtain ⟨z0,z1,z2,z3⟩:=y.out.cells;have a7:=y.out.frz 0;have a6:=y.out.frz 1;have a5:=y.out.frz 2;have a4:=y.out.frz 3
 try dsimp only
 go_upto_region 2 with fail;rw [← J.out];go_wp2;obtain ⟨s0,s1,s2,s3⟩:=(y.out.set4 (.int .i64 k) (.slice na nn nc) (.slice ra rn rc) (.slice ka kn kc)).cells;refine bodyPost_ret (v:=.agg #[.int .i64 k,.slice na nn nc,.slice ra rn rc,.slice ka kn kc]) (by simp [results, Tryz.results35,go_sem,s0,s1,s2,s3]) rfl ?_;have Y:Same Wx.heap.size w2.heap.size W3 ((((W3.setCell ⟨w.heap.size,0,none⟩ (.int .i64 k)).setCell ⟨w.heap.size,1,none⟩ (.slice na nn nc)).setCell ⟨w.heap.size,2,none⟩ (.slice ra rn rc)).setCell ⟨w.heap.size,3,none⟩ (.slice ka kn kc)):=fun q h1 h2=>heap_set4 _ _ _ _ _ (by omega)
 refine ⟨_,rfl,(a1.out.same Y).mono (by omega) (by simp;omega),?_⟩;exact (((a2.out.setCell (p:=⟨w.heap.size,0,none⟩) (Nat.le_refl _) _).setCell (p:=⟨w.heap.size,1,none⟩) (Nat.le_refl _) _).setCell (p:=⟨w.heap.size,2,none⟩) (Nat.le_refl _) _).setCell (p:=⟨w.heap.size,3,none⟩) (Nat.le_refl _) _
end

section
open Go.RowKit
structure DgM (o:Obj) (B:Nat) (a:Option Addr) (n y:Nat) (zs:List Int) (hi:Nat) (w w':World):Prop where
 cur:Cur w' B a n y zs hi
 bt:Bt B w.heap.size w w'
 box:w'.heap[w.heap.size]?=some o
section
variable {o:Obj} {B:Nat} {a:Option Addr} {n y:Nat} {zs:List Int} {hi:Nat} {w w1 w2:World}
theorem DgM.lt (h:DgM o B a n y zs hi w w1):w.heap.size<w1.heap.size:=(Array.getElem?_eq_some_iff.1 h.box).1
theorem DgM.only (h:DgM o B a n y zs hi w w1) (hB:B<w.heap.size) (c:Cur w2 B a n y zs hi) (oo:Only B w1 w2):DgM o B a n y zs hi w w2 :=
 ⟨c,h.bt.trans (oo.bt.mono h.bt.size),(oo.other _ h.lt (by omega)).trans h.box⟩
theorem DgM.next (h:DgM o B a n y zs hi w w1) (hB:B<w.heap.size) (c:Cur w2 B a n y zs hi) (hb:Bt B w1.heap.size w1 w2):DgM o B a n y zs hi w w2 :=
 ⟨c,h.bt.trans (hb.mono h.bt.size),(hb.block _ h.lt (by omega)).trans h.box⟩
theorem DgM.grown {row:Option Nat} (h:DgM o B a n y zs hi w w1) (hB:B<w.heap.size) (hg:w1.grownBy w2 row) (hr:∀ k,row=some k→w.heap.size<k):DgM o B a n y zs hi w w2:=by
 have:=h.bt.size;have hl:=h.lt;have hk:∀ q,q≤w.heap.size→w2.heap[q]?=w1.heap[q]?:=fun q hq=>hg.block q (by omega) (fun e=>by have:=hr q e.symm;omega)
 exact ⟨h.cur.keepB (fun q hq=>hk q (by omega)),h.bt.grown hg (by omega) (fun k e=>by have:=hr k e;omega),(hk _ (Nat.le_refl _)).trans h.box⟩
theorem DgM.below (h:DgM o B a n y zs hi w w1) (hB:B<w.heap.size) (hb:Below w1.heap.size w1 w2):DgM o B a n y zs hi w w2:=by
 have:=h.bt.size;have hl:=h.lt;exact ⟨h.cur.of (hb.mono (by omega)),h.bt.trans (Bt.of_below (hb.mono h.bt.size)),(hb.block _ hl).trans h.box⟩
theorem DgM.drew (h:DgM o B a n y zs hi w w1):DgM o B a n y zs hi w w1.drew:=⟨h.cur.keepB (w':=w1.drew) (fun _ _=>rfl),h.bt.drew,h.box⟩
theorem DgM.set (h:DgM o B a n y zs hi w w1) (hB:B<w.heap.size) {q i:Nat} (hq:w.heap.size<q) (v:Value):DgM o B a n y zs hi w (w1.setCell ⟨q,i,none⟩ v) :=
 ⟨h.cur.keepB (fun k hk=>Below.heap_setCell _ _ _ _ (by show k≠q;omega)),h.bt.set (.inl (by show w.heap.size≤q;omega)) v,(Below.heap_setCell _ _ _ _ (by show w.heap.size≠q;omega)).trans h.box⟩
theorem DgM.start (c:Cur w B a n y zs hi) (cs:Array Value) (t:Nat):DgM (.cells cs t) B a n y zs hi w (w.alloc (.cells cs t)):=by
 have O:Below w.heap.size w (w.alloc (.cells cs t)):=(Below.refl _ _).alloc (Nat.le_refl _) _;refine ⟨c.of (O.mono c.lt),Bt.of_below O,?_⟩
 show (w.heap.push _)[w.heap.size]?=_
 rw [Array.getElem?_push,if_pos rfl]
end
theorem bw_rd (W:World) (s:ByteArray) (hs:s.size≤255):Rd W.heap.size (Lib.bytesWorld W 5 s).heap.size (Lib.bytesWorld W 5 s) (some ⟨W.heap.size,0,none⟩) s.size (grownCap W s.size 0 5) (numsOf s):=by
 obtain ⟨a',c',e,h3,_⟩:=rol_conv W s hs;simp only [Value.slice.injEq] at e;obtain ⟨e1,e2,e3⟩:=e;rw [← e1,← e2,← e3] at h3;refine h3.rd (fun x hx=>?_);obtain ⟨j,hj,rfl⟩:=mem_leafB.1 hx;exact ⟨Nat.le_refl _,by rw [Lib.bytesWorld_size];exact Nat.lt_succ_self _⟩
def WdP (B:Nat) (a:Option Addr) (n y:Nat) (zs:List Int) (hi:Nat) (w:World) (e:Ending) (w':World):Prop :=
 ∃ (b:Option Addr) (k c:Nat) (z:List Int),e=.returned (.slice b k c)∧Rd w.heap.size w'.heap.size w' b k c z∧z.length≤1∧Cur w' B a n y zs hi∧Bt B w.heap.size w w'
set_option maxRecDepth 100000 in
set_option maxHeartbeats 2000000 in
theorem l3ind_any {w:World} {B:Nat} {a:Option Addr} {n y:Nat} {zs:List Int} {hi:Nat} (c:Cur w B a n y zs hi) :
    Calls Tryz.prog 118 #[.pointer (some ⟨B,0,none⟩)] w (WdP B a n y zs hi w):=by
 have hB:=c.lt;obtain ⟨W1,D⟩:∃ W,Hid (W=w.alloc (.cells #[.string { data:=#[120] },.string { data:=#[121] }] 9)):=⟨_,rfl⟩;have G:Below w.heap.size w W1:=by rw [D.out];exact (Below.refl _ _).alloc (Nat.le_refl _) _
 have J:w.heap.size<W1.heap.size:=by rw [D.out];simp
 have X:Hid (∀ i:Nat,i<2→∃ s:ByteArray,W1.cell? ⟨w.heap.size,i,none⟩=some (.string s)∧s.size≤1):=by
  intro i hi;rw [D.out]
  match i,hi with
  | 0,_ | 1,_=>exact ⟨_,by simp;rfl,by decide⟩
 have Y:Hid (Cur W1 B a n y zs hi):=c.of (G.mono hB);have Z:Hid (Below w.heap.size w W1):=G;clear G c;go_enter Tryz.func118, Tryz.ntmps118;go_wp2_with fail;rw [← D.out];refine (l1Below_any Y.out 2 (by omega)).mono ?_;rintro e w2 ⟨x,rfl,⟨U,T⟩,E,A⟩;obtain ⟨j,hj⟩:∃ j:Nat,x=(j:Int):=⟨x.toNat,by omega⟩;subst hj;obtain ⟨s,I,V⟩:=X.out j (by omega);have a0:w2.cell? ⟨w.heap.size,j,none⟩=some (.string s):=(World.cell?_of_block (w:=W1) (A.other w.heap.size J (by omega))).trans I;obtain ⟨W3,H⟩:∃ W,Hid (W=Lib.bytesWorld w2 5 s):=⟨_,rfl⟩;obtain ⟨cp,R⟩:∃ cp,Hid (cp=grownCap w2 s.size 0 5):=⟨_,rfl⟩
 have a3:(convert 9 22 (.string s)).run Tryz.prog w2=.ok (.slice (some ⟨w2.heap.size,0,none⟩) s.size cp) W3:=by
  rw [H.out,R.out];exact Lib.run_convert_string_bytes w2 9 22 5 s Tryz.underlying9 Tryz.underlying22 Tryz.underlying5
 have F:Below w2.heap.size w2 W3:=by rw [H.out];exact bytes_below w2 5 s
 have HF:Hid (WdP B a n y zs hi w (.returned (.slice (some ⟨w2.heap.size,0,none⟩) s.size cp)) W3):=by
  have hr:=bw_rd w2 s (by omega);rw [← H.out,← R.out] at hr;have a1:=A.below.size;have N:Bt B w.heap.size w w2:=(Bt.of_below Z.out).trans (A.bt.mono (Nat.le_of_lt J));exact ⟨_,_,_,_,rfl,hr.mono (by omega) (Nat.le_refl _),by rw [numsOf_len];exact V,E.of (F.mono E.lt),N.trans (Bt.of_below (F.mono N.size))⟩
 have a2:(j:Int)<2:=by omega
 clear I E A F U T;go_wp2;go_ret;exact HF.out
end

section
open Go.RowKit
theorem rol_rd {W:World} {a:Option Addr} {n A:Nat} {zs:List Int} {b' b i lo hi:Nat} {v:Value} (h:RolR W (.slice a n A) zs b') (hb:b'≠b) (h1:lo≤b') (h2:b'<hi):Rd lo hi (W.setCell ⟨b,i,none⟩ v) a n A zs:=by
 obtain ⟨a',c',e,h3,_⟩:=h;simp only [Value.slice.injEq] at e;obtain ⟨rfl,rfl,rfl⟩:=e;refine (h3.keep (w':=W.setCell ⟨b,i,none⟩ v) (fun x hx=>?_)).rd (fun x hx=>?_)
 · obtain ⟨j,hj,rfl⟩:=mem_leafB.1 hx;exact Below.heap_setCell _ _ _ _ hb
 obtain ⟨j,hj,rfl⟩:=mem_leafB.1 hx;exact ⟨h1,h2⟩
structure WpV (B:Nat) (a:Option Addr) (n A:Nat) (zs:List Int) (hi:Nat) (w:World) (X:Nat) (k:Int) (na:Option Addr) (nn nc:Nat) (ra:Option Addr) (rn rc:Nat) (ka:Option Addr) (kn kc:Nat) (D K:Nat) (wr:World):Prop where
 m:DrM B a n A zs hi w wr
 x:w.heap.size<X
 box:BoxC wr X (.int .i64 k) (.slice na nn nc) (.slice ra rn rc) (.slice ka kn kc)
 own:∃ c L,OwC wr D (.agg #[.int .i64 k,.slice na nn nc,.slice ra rn rc,.slice ka kn kc]) c L∧(∀ x∈L,w.heap.size<x.1.block∧x.1.block≠X∧x.1.block<wr.heap.size)∧c.bulk≤K
theorem WpV.wrap {B:Nat} {a:Option Addr} {n A:Nat} {zs:List Int} {hi:Nat} {w:World} {X:Nat} {k:Int} {na:Option Addr} {nn nc:Nat} {ra:Option Addr} {rn rc:Nat} {ka:Option Addr} {kn kc:Nat} {D K:Nat} {wr:World} (h:WpV B a n A zs hi w X k na nn nc ra rn rc ka kn kc D K wr) (hB:B<w.heap.size) (k':Int) (row:Array Value) (m:Nat) (hm:m≤2)
    (E:∀ i,i<m→row[0+i*4]?=some (.int .i64 k)∧row[0+i*4+1]?=some (.slice na nn nc)∧row[0+i*4+2]?=some (.slice ra rn rc)∧row[0+i*4+3]?=some (.slice ka kn kc)) :
    WpV B a n A zs hi w X k' none 0 0 none 0 0 (some ⟨wr.heap.size,0,none⟩) m m (D+1) (m*(1+K)) (((((wr.setCell ⟨X,0,none⟩ (.int .i64 k')).setCell ⟨X,1,none⟩ (.slice none 0 0)).setCell ⟨X,2,none⟩ (.slice none 0 0)).setCell ⟨X,3,none⟩ (.slice (some ⟨wr.heap.size,0,none⟩) m m)).alloc (.cells row 30)):=by
 obtain ⟨c,L,hr,hL,hk⟩:=h.own;have R:X<wr.heap.size:=h.box.lt;have hx:=h.x;obtain ⟨V,hV⟩:∃ V,V=((((wr.setCell ⟨X,0,none⟩ (.int .i64 k')).setCell ⟨X,1,none⟩ (.slice none 0 0)).setCell ⟨X,2,none⟩ (.slice none 0 0)).setCell ⟨X,3,none⟩ (.slice (some ⟨wr.heap.size,0,none⟩) m m)):=⟨_,rfl⟩;have G:V.heap.size=wr.heap.size:=by rw [hV];simp
 have hb:Below V.heap.size V (V.alloc (.cells row 30)):=(Below.refl _ _).alloc (Nat.le_refl _) _;obtain ⟨W,hW⟩:∃ W,W=V.alloc (.cells row 30):=⟨_,rfl⟩
 have J:∀ q,q≠X→q<wr.heap.size→W.heap[q]?=wr.heap[q]?:=by
  intro q hq hl;rw [hW,hb.block q (by omega),hV];exact heap_set4 _ _ _ _ _ hq
 have O:W.heap.size=wr.heap.size+1:=by rw [hW];simp [G]
 have F:BoxC W X (.int .i64 k') (.slice none 0 0) (.slice none 0 0) (.slice (some ⟨wr.heap.size,0,none⟩) m m):=by
  have:BoxC V X (.int .i64 k') (.slice none 0 0) (.slice none 0 0) (.slice (some ⟨wr.heap.size,0,none⟩) m m):=by rw [hV];exact h.box.set4 _ _ _ _
  rw [hW];exact (hb.block _ (by omega)).trans this
 have I:OwC W D (.agg #[.int .i64 k,.slice na nn nc,.slice ra rn rc,.slice ka kn kc]) c L:=hr.keep (fun x hx=>J _ (hL x hx).2.1 (hL x hx).2.2)
 have y:∀ j u,row[j]?=some u→W.cell? ⟨wr.heap.size,j,none⟩=some u:=by
  intro j u hu;rw [hW,← G,cell_of_row _ V.heap.size j row _ (0,0) (Go.heap_alloc_new V _)];exact hu
 rw [← hV];rw [← hW];refine ⟨?_,hx,F,.mk k' [] [] (List.replicate m c),leafK wr.heap.size 0 (fun _=>L) m,?_,?_,?_⟩
 · have:DrM B a n A zs hi w V:=by rw [hV];exact (((h.m.set hB hx _).set hB hx _).set hB hx _).set hB hx _
   rw [hW];exact this.below hB hb
 · have h0:OwB W none 0 0 [] 0 0:=⟨rfl,⟨by simp,by omega⟩,by simp,.inl rfl⟩;refine ⟨none,0,0,none,0,0,_,_,_,0,0,0,0,wr.heap.size,0,fun _=>L,rfl,h0,h0,⟨by show (List.replicate m c).length=m;simp,⟨Nat.le_refl _,by omega⟩,.inr ⟨rfl,fun i hi=>?_⟩⟩,by simp [leafB]⟩;obtain ⟨r0,r1,r2,r3⟩:=E i hi
   have e:(CN.mk k' [] [] (List.replicate m c)).kids.getD i CN.zero=c:=by
    show (List.replicate m c).getD i CN.zero=c
    simp [List.getD,hi]
   rw [e];exact ⟨_,_,_,_,y _ _ r0,y _ _ r1,y _ _ r2,y _ _ r3,I⟩
 · intro x H;obtain ⟨i,_,e⟩:=mem_leafK.1 H;rcases e with rfl | e
   · have:=h.m.bt.size;exact ⟨by show w.heap.size<wr.heap.size;omega,by show wr.heap.size≠X;omega,by show wr.heap.size<W.heap.size;omega⟩
   have:=hL x e;exact ⟨this.1,this.2.1,by omega⟩
 have N:∀ m,bulks (List.replicate m c)=m*(1+c.bulk):=by
  intro m
  induction m with
  | zero=>simp [bulks]
  | succ m ih=>rw [List.replicate_succ,bulks,ih,Nat.succ_mul];omega
 rw [CN.bulk,N];have:=Nat.mul_le_mul_left m (Nat.add_le_add_left hk 1);simp only [List.length_nil];omega
end

end Go.Proofs.YtnmljalcndfjmaaGreat
