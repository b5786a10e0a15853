/- Several texts in one: DrawAx0, KrI6. -/
import Derived.Test.YtocpeiaolofodaaGreatNG25
import Derived.Test.YtocpeiaolofodaaGreatNG6
import Derived.Test.YtocpeiaolofodaaGreatNG26
import Derived.Test.YtocpeiaolofodaaGreatKbOkFn
namespace Go.Proofs.YtocpeiaolofodaaGreat

section
open Go.RowKit
structure DgM (o:Obj) (B:Nat) (a:Option Addr) (n A:Nat) (zs:List Int) (hi:Nat) (w w':World):Prop where
 cur:Cur w' B a n A zs hi
 bt:Bt B w.heap.size w w'
 box:w'.heap[w.heap.size]?=some o
section
variable {o:Obj} {B:Nat} {a:Option Addr} {n A:Nat} {zs:List Int} {hi:Nat} {w w1 w2:World}
theorem DgM.lt (h:DgM o B a n A zs hi w w1):w.heap.size<w1.heap.size:=(Array.getElem?_eq_some_iff.1 h.box).1
theorem DgM.only (h:DgM o B a n A zs hi w w1) (hB:B<w.heap.size) (c:Cur w2 B a n A zs hi) (oo:Only B w1 w2):DgM o B a n A zs hi w w2 :=
 ⟨c,h.bt.trans (oo.bt.mono h.bt.size),(oo.other _ h.lt (by omega)).trans h.box⟩
theorem DgM.next (h:DgM o B a n A zs hi w w1) (hB:B<w.heap.size) (c:Cur w2 B a n A zs hi) (hb:Bt B w1.heap.size w1 w2):DgM o B a n A zs hi w w2 :=
 ⟨c,h.bt.trans (hb.mono h.bt.size),(hb.block _ h.lt (by omega)).trans h.box⟩
theorem DgM.grown {row:Option Nat} (h:DgM o B a n A zs hi w w1) (hB:B<w.heap.size) (hg:w1.grownBy w2 row) (hr:∀ k,row=some k→w.heap.size<k):DgM o B a n A zs hi w w2:=by
 have:=h.bt.size;have hl:=h.lt;have hk:∀ q,q≤w.heap.size→w2.heap[q]?=w1.heap[q]?:=fun q hq=>hg.block q (by omega) (fun e=>by have:=hr q e.symm;omega)
 exact ⟨h.cur.keepB (fun q hq=>hk q (by omega)),h.bt.grown hg (by omega) (fun k e=>by have:=hr k e;omega),(hk _ (Nat.le_refl _)).trans h.box⟩
theorem DgM.below (h:DgM o B a n A zs hi w w1) (hB:B<w.heap.size) (hb:Below w1.heap.size w1 w2):DgM o B a n A zs hi w w2:=by
 have:=h.bt.size;have hl:=h.lt;exact ⟨h.cur.of (hb.mono (by omega)),h.bt.trans (Bt.of_below (hb.mono h.bt.size)),(hb.block _ hl).trans h.box⟩
theorem DgM.drew (h:DgM o B a n A zs hi w w1):DgM o B a n A zs hi w w1.drew:=⟨h.cur.keepB (w':=w1.drew) (fun _ _=>rfl),h.bt.drew,h.box⟩
theorem DgM.set (h:DgM o B a n A zs hi w w1) (hB:B<w.heap.size) {q i:Nat} (hq:w.heap.size<q) (v:Value):DgM o B a n A zs hi w (w1.setCell ⟨q,i,none⟩ v) :=
 ⟨h.cur.keepB (fun k hk=>Below.heap_setCell _ _ _ _ (by show k≠q;omega)),h.bt.set (.inl (by show w.heap.size≤q;omega)) v,(Below.heap_setCell _ _ _ _ (by show w.heap.size≠q;omega)).trans h.box⟩
theorem DgM.start (c:Cur w B a n A zs hi) (cs:Array Value) (t:Nat):DgM (.cells cs t) B a n A zs hi w (w.alloc (.cells cs t)):=by
 have U:Below w.heap.size w (w.alloc (.cells cs t)):=(Below.refl _ _).alloc (Nat.le_refl _) _;refine ⟨c.of (U.mono c.lt),Bt.of_below U,?_⟩
 show (w.heap.push _)[w.heap.size]?=_
 rw [Array.getElem?_push,if_pos rfl]
end
theorem bw_rd (W:World) (s:ByteArray) (hs:s.size≤255):Rd W.heap.size (Lib.bytesWorld W 5 s).heap.size (Lib.bytesWorld W 5 s) (some ⟨W.heap.size,0,none⟩) s.size (grownCap W s.size 0 5) (numsOf s):=by
 obtain ⟨a',c',e,h3,_⟩:=rol_conv W s hs;simp only [Value.slice.injEq] at e;obtain ⟨e1,e2,e3⟩:=e;rw [← e1,← e2,← e3] at h3;refine h3.rd (fun x hx=>?_);obtain ⟨j,hj,rfl⟩:=mem_leafB.1 hx;exact ⟨Nat.le_refl _,by rw [Lib.bytesWorld_size];exact Nat.lt_succ_self _⟩
def LowS (s:ByteArray):Prop:=s.size≤1∧lowOk (numsOf s)=true
theorem low_114:LowS { data:=#[114] }:=⟨by decide,by kernel_rfl⟩
theorem low_115:LowS { data:=#[115] }:=⟨by decide,by kernel_rfl⟩
theorem low_120:LowS { data:=#[120] }:=⟨by decide,by kernel_rfl⟩
theorem low_121:LowS { data:=#[121] }:=⟨by decide,by kernel_rfl⟩
def WdP (B:Nat) (a:Option Addr) (n A:Nat) (zs:List Int) (hi:Nat) (w:World) (e:Ending) (w':World):Prop :=
 ∃ (b:Option Addr) (k c:Nat) (z:List Int),e=.returned (.slice b k c)∧Rd w.heap.size w'.heap.size w' b k c z∧(z.length≤1∧lowOk z=true)∧Cur w' B a n A zs hi∧Bt B w.heap.size w w'
set_option maxRecDepth 100000 in
set_option maxHeartbeats 2000000 in
theorem l3ind_any {w:World} {B:Nat} {a:Option Addr} {n A:Nat} {zs:List Int} {hi:Nat} (c:Cur w B a n A zs hi) :
    Calls Tryz.prog 62 #[.pointer (some ⟨B,0,none⟩)] w (WdP B a n A zs hi w):=by
 have hB:=c.lt;obtain ⟨W1,E⟩:∃ W,Hid (W=w.alloc (.cells #[.string { data:=#[120] },.string { data:=#[121] }] 9)):=⟨_,rfl⟩;have I:Below w.heap.size w W1:=by rw [E.out];exact (Below.refl _ _).alloc (Nat.le_refl _) _
 have O:w.heap.size<W1.heap.size:=by rw [E.out];simp
 have Z:Hid (∀ i:Nat,i<2→∃ s:ByteArray,W1.cell? ⟨w.heap.size,i,none⟩=some (.string s)∧LowS s):=by
  intro i hi;rw [E.out]
  match i,hi with
  | 0,_=>exact ⟨_,by simp,low_120⟩
  | 1,_=>exact ⟨_,by simp,low_121⟩
 have a0:Hid (Cur W1 B a n A zs hi):=c.of (I.mono hB);have a1:Hid (Below w.heap.size w W1):=I;clear I c;go_enter Tryz.func62, Tryz.ntmps62;go_wp2_with fail;rw [← E.out];refine (l1Below_any a0.out 2 (by omega)).mono ?_;rintro e w2 ⟨x,rfl,⟨Y,X⟩,G,D⟩;obtain ⟨j,hj⟩:∃ j:Nat,x=(j:Int):=⟨x.toNat,by omega⟩;subst hj;obtain ⟨s,N,F⟩:=Z.out j (by omega);have a2:w2.cell? ⟨w.heap.size,j,none⟩=some (.string s):=(World.cell?_of_block (w:=W1) (D.other w.heap.size O (by omega))).trans N;obtain ⟨W3,J⟩:∃ W,Hid (W=Lib.bytesWorld w2 5 s):=⟨_,rfl⟩;obtain ⟨cp,V⟩:∃ cp,Hid (cp=grownCap w2 s.size 0 5):=⟨_,rfl⟩
 have a5:(convert 9 22 (.string s)).run Tryz.prog w2=.ok (.slice (some ⟨w2.heap.size,0,none⟩) s.size cp) W3:=by
  rw [J.out,V.out];exact Lib.run_convert_string_bytes w2 9 22 5 s Tryz.underlying9 Tryz.underlying22 Tryz.underlying5
 have H:Below w2.heap.size w2 W3:=by rw [J.out];exact bytes_below w2 5 s
 have HF:Hid (WdP B a n A zs hi w (.returned (.slice (some ⟨w2.heap.size,0,none⟩) s.size cp)) W3):=by
  have hr:=bw_rd w2 s (by have:=F.1;omega);rw [← J.out,← V.out] at hr;have a3:=D.below.size;have T:Bt B w.heap.size w w2:=(Bt.of_below a1.out).trans (D.bt.mono (Nat.le_of_lt O));exact ⟨_,_,_,_,rfl,hr.mono (by omega) (Nat.le_refl _),⟨by rw [numsOf_len];exact F.1,F.2⟩,G.of (H.mono G.lt),T.trans (Bt.of_below (H.mono T.size))⟩
 have a4:(j:Int)<2:=by omega
 clear N G D H Y X;go_wp2;go_ret;exact HF.out
end

section
open Go.RowKit
set_option linter.unusedVariables false
theorem axsR_bulk {ts:List Tok} {en:Int} (hw:∀ i,(wordI ts i).length≤6) (hn:ts.length≤1500):∀ {f i:Nat} {T xs:List AX},(∀ x∈T,x.bulkR≤10500)→axsR ts en f i T=.ok xs→∀ x∈xs,x.bulkR≤10500:=by
 intro f
 induction f with
 | zero=>intro i T xs ha h;simp only [axsR,ResK.ok.injEq] at h;rw [← h];exact ha
 | succ f ih =>
  intro i T xs ha h;rw [axsR] at h
  split at h
  · cases h1:axR ts en i with
    | bad p=>rw [h1] at h;simp at h
    | ok x j =>
     rw [h1] at h;refine ih (fun y hy=>?_) h;rcases List.mem_append.1 hy with hy | hy
     · exact ha y hy
     simp only [List.mem_singleton] at hy;subst hy;have:=(axR_bulk hw h1).1;have:=(axR_end h1).2;omega
  simp only [ResK.ok.injEq] at h;rw [← h];exact ha
theorem wholeK_bulk (zs:List Int):∀ x∈(wholeK zs).1,x.bulkR≤10500:=by
 unfold wholeK
 split
 · intro x hx;simp at hx
 cases h:axsR (toks zs).1 (zs.length:Nat) ((toks zs).1.length+1) 0 [] with
 | bad p=>intro x hx;simp at hx
 | ok xs=>exact axsR_bulk (toks_short zs) (toks_bound zs).1 (fun x hx=>by simp at hx) h
theorem kbRead_eight (zs:List Int):(kbRead zs).1.length≤8:=by
 unfold kbRead
 split
 · simp
 rename_i h
 by_cases hp:(wholeK zs).2=-1
 · have hk:kbB (wholeK zs).1=true:=by
    cases hb:kbB (wholeK zs).1
    · exact absurd ⟨hp,hb⟩ h
    rfl
   unfold kbB at hk;simp only [Bool.and_eq_true,decide_eq_true_eq] at hk;exact hk.1
 have:(wholeK zs).1=[]:=by
  unfold wholeK at hp ⊢
  split
  · rfl
  rename_i h1
  rw [if_neg h1] at hp;cases hx:axsR (toks zs).1 (zs.length:Nat) ((toks zs).1.length+1) 0 [] with
  | bad p=>rfl
  | ok xs=>rw [hx] at hp;exact absurd rfl hp
 rw [this];simp
theorem kbRead_bulk (zs:List Int):∀ x∈(kbRead zs).1,x.bulkR≤10500:=by
 unfold kbRead
 split
 · intro x hx;simp at hx
 exact wholeK_bulk zs
set_option maxRecDepth 100000 in
set_option maxHeartbeats 2000000 in
theorem implKbRead_any (a:Option Addr) (n O:Nat) (zs:List Int) (w:World) (h:Rd 0 w.heap.size w a n O zs) :
    Calls Tryz.prog 8 #[.slice a n O] w (AnsK w (kbRead zs)):=by
 have HL:Hid (zs.length=n):=h.len;obtain ⟨xs,p,U⟩:∃ c p,wholeK zs=(c,p):=⟨_,_,rfl⟩;have HW:Hid (wholeK zs=(xs,p)):=U
 have a3:Hid (∀ x∈xs,x.c.bulk≤1048576∧x.d.bulk≤1048576):=by
  have:=wholeK_bulk zs;rw [U] at this;intro x hx;have:=this x hx;unfold AX.bulkR at this;omega
 obtain ⟨W0,X⟩:∃ W0,Hid (W0=w.alloc (.cells #[.slice none 0 0] 25)):=⟨_,rfl⟩;have N:Below w.heap.size w W0:=by rw [X.out];exact (Below.refl _ _).alloc (Nat.le_refl _) _
 have a4:Hid (Below w.heap.size w W0):=N;have Y:Hid (BoxKv W0 w.heap.size (.slice none 0 0)):=by unfold Hid;rw [X.out];exact BoxKv.new w _
 have a6:Hid (w.heap.size<W0.heap.size):=Y.out.lt;have a7:Hid (Rd 0 W0.heap.size W0 a n O zs):=(h.below N (Nat.le_refl _)).mono (Nat.le_refl _) N.size;clear h N U;go_enter Tryz.func8, Tryz.ntmps8;go_wp2_with fail;rw [← X.out];refine (readWholeK_any a n O zs W0 a7.out).mono ?_;rintro e w1 hA;obtain ⟨v,vs,Vs,LL,he,hO,J⟩:=hA;subst he;rw [HW.out] at hO ⊢;obtain ⟨va,vc,hv⟩:=hO.form;subst hv;obtain ⟨m,hm⟩:∃ m,m=xs.length:=⟨_,rfl⟩;have HM:Hid (m=xs.length):=hm;have a9:Hid (OwnKb W0.heap.size w1 (.slice va m vc) vs xs Vs LL):=by unfold Hid;rw [hm];exact hO
 have a5:Hid (BoxKv w1 w.heap.size (.slice none 0 0)):=Y.out.of (J.block _ Y.out.lt);have ab:Hid (Below w.heap.size w w1):=a4.out.trans (J.mono a4.out.size);have ad:=a6.out;have ac:W0.heap.size≤w1.heap.size:=J.size;obtain ⟨W3,V⟩:∃ W,Hid (W=w1.alloc (.cells #[.slice va m vc] 25)):=⟨_,rfl⟩;have I:Below w1.heap.size w1 W3:=by rw [V.out];exact (Below.refl _ _).alloc (Nat.le_refl _) _
 have Z:Hid (OwnKb W0.heap.size W3 (.slice va m vc) vs xs Vs LL):=a9.out.below I;have D:Hid (BoxKv W3 w.heap.size (.slice none 0 0)):=a5.out.of (I.block _ (by omega));have a0:Hid (BoxKv W3 w1.heap.size (.slice va m vc)):=by unfold Hid;rw [V.out];exact BoxKv.new w1 _
 have F:Hid (Below w.heap.size w W3):=ab.out.trans (I.mono (by omega))
 have a2:Hid (RdK W0.heap.size W3.heap.size W3 6 va m vc xs):=by
  obtain ⟨a',c',e1,e2⟩:=Z.out.rd;simp only [Value.slice.injEq] at e1;obtain ⟨rfl,_,rfl⟩:=e1;unfold Hid;rw [HM.out];exact e2
 rw [show ((xs,p):List AX × Int).1.length=m from hm.symm];clear hO J I hm;go_upto_region 2 with fail
 try dsimp only
 rw [← V.out];have c0:=a0.out.cell;have v0:=D.out.cell;have G:=D.out.frz 0;by_cases hp:p=-1
 · subst hp;cases H:kbB xs
   · have E:Hid (kbRead zs=([],((n:Nat):Int))):=kbRead_no HL.out HW.out H;go_wp2_with fail;refine (implKbOk_any a2.out (Nat.le_refl _) a3.out).mono ?_;rintro e w4 ⟨rfl,z⟩;rw [H];have A:Hid (BoxKv w4 w.heap.size (.slice none 0 0)):=D.out.of (z.block _ D.out.lt);have a1:Hid (Below w.heap.size w w4):=F.out.trans (z.mono F.out.size);clear z c0 v0 G;have v0:=A.out.cell;have G:=A.out.frz 0;go_wp2;have s0:=(A.out.set (.slice none 0 0)).cell;refine bodyPost_ret (v:=.tuple #[.agg #[.slice none 0 0],.int .i64 n]) (by simp [results, Tryz.results8,go_sem,s0]) rfl ?_;exact AnsK.mk E.out (ownKb_nil _ _) (a1.out.setCell (Nat.le_refl _) _)
   have E:Hid (kbRead zs=(xs,-1)):=kbRead_ok HW.out H;go_wp2_with fail;refine (implKbOk_any a2.out (Nat.le_refl _) a3.out).mono ?_;rintro e w4 ⟨rfl,z⟩;rw [H];have A:Hid (BoxKv w4 w.heap.size (.slice none 0 0)):=D.out.of (z.block _ D.out.lt);have aa:Hid (BoxKv w4 w1.heap.size (.slice va m vc)):=a0.out.of (z.block _ a0.out.lt);have a1:Hid (Below w.heap.size w w4):=F.out.trans (z.mono F.out.size);have a8:Hid (OwnKb W0.heap.size w4 (.slice va m vc) vs xs Vs LL):=Z.out.below z;clear z c0 v0 G;have c0:=aa.out.cell;have v0:=A.out.cell;have G:=A.out.frz 0;go_wp2;have s0:=(A.out.set (.slice va m vc)).cell;refine bodyPost_ret (v:=.tuple #[.agg #[.slice va m vc],.int .i64 (-1)]) (by simp [results, Tryz.results8,go_sem,s0]) rfl ?_;exact AnsK.mk E.out ((a8.out.keep (fun q hq _=>heap_set1 _ _ _ _ (by omega)) (by simp)).mono (by omega)) (a1.out.setCell (Nat.le_refl _) _)
 have ae:(p == -1)=false:=by simpa using hp
 have E:Hid (kbRead zs=(xs,p)):=by unfold Hid kbRead;rw [HW.out];rw [if_neg (fun e=>hp e.1)]
 go_wp2;have s0:=(D.out.set (.slice va m vc)).cell;refine bodyPost_ret (v:=.tuple #[.agg #[.slice va m vc],.int .i64 p]) (by simp [results, Tryz.results8,go_sem,s0]) rfl ?_;exact AnsK.mk E.out ((Z.out.keep (fun q hq _=>heap_set1 _ _ _ _ (by omega)) (by simp)).mono (by omega)) (F.out.setCell (Nat.le_refl _) _)
end

end Go.Proofs.YtocpeiaolofodaaGreat
