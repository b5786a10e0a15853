/- Several texts in one: DrawCon, WdOwn. -/
import Derived.Test.YtnmljalcndfjmaaGreatNG14
import Derived.Test.YtnmljalcndfjmaaGreatNG21
import Derived.Test.YtnmljalcndfjmaaGreatNG2
import Derived.Test.YtnmljalcndfjmaaGreatNG4
namespace Go.Proofs.YtnmljalcndfjmaaGreat

section
open Go.RowKit
theorem Only.bt {B:Nat} {w w':World} (o:Only B w w'):Bt B w.heap.size w w':=⟨o.below.os,o.below.tape,o.below.output,o.below.size,o.other⟩
theorem Bt.only {B:Nat} {w w':World} (h:Bt B w.heap.size w w') (hB:B≤w.heap.size):Only B w w':=⟨h.below hB (Nat.le_refl _),h.block⟩
theorem Cur.keepB {w w':World} {B:Nat} {a:Option Addr} {n y:Nat} {zs:List Int} {hi:Nat} (c:Cur w B a n y zs hi) (hb:∀ q,q≤B→w'.heap[q]?=w.heap[q]?):Cur w' B a n y zs hi:=by
 obtain ⟨⟨i,h,ag,q⟩,c2,c3⟩:=c;exact ⟨⟨i,h,ag,(hb B (Nat.le_refl _)).trans q⟩,c2.same (fun b _ h2=>hb b (by omega)),c3⟩
theorem rol_conv (W:World) (s:ByteArray) (hs:s.size≤255):RolR (Lib.bytesWorld W 5 s) (.slice (some ⟨W.heap.size,0,none⟩) s.size (grownCap W s.size 0 5)) (numsOf s) W.heap.size:=by
 have ah:=grownCap_ge W s.size 0 5;have ae:=grownCap_le_maxLen W s.size 0 5 (by unfold maxLen;omega)
 have ab:(Lib.bytesCells W 5 s).size=grownCap W s.size 0 5:=by
  have:s.data.size=s.size:=rfl;simp only [Lib.bytesCells,Array.size_append,Array.size_map,Array.size_replicate,this];omega
 refine ⟨_,_,by rw [numsOf_len],⟨rfl,⟨by rw [numsOf_len];exact ah,by unfold maxLen at ae;omega⟩,getD_byte (numsOf_byte s),?_⟩,fun _ o ho=>?_⟩
 · rw [numsOf_len];refine .inr ⟨rfl,fun i hi=>?_⟩;rw [Nat.zero_add,Lib.bytesWorld_cell W 5 s i hi];unfold numsOf;simp only [List.getD,List.getElem?_map];cases s.data.toList[i]? <;> rfl
 rw [numsOf_len] at ho;simp only [World.frozen?,Lib.bytesWorld_at_new,ab];simp;omega
theorem ownR_nul (k:Int) (s d:Nat) (w:World):OwnR [] [] 0 0 s w (d+1) (.agg #[.int .i64 k,.slice none 0 0,.slice none 0 0,.slice none 0 0]) (.mk k [] [] []) []:=by
 have h0:OwB w none 0 0 [] 0 0:=⟨rfl,⟨by simp,by omega⟩,by simp,.inl rfl⟩;exact ⟨⟨none,0,0,none,0,0,none,0,0,0,0,0,0,0,0,fun _=>[],rfl,h0,h0,⟨rfl,⟨by simp,by omega⟩,.inl rfl⟩,by simp [leafB,leafK]⟩,by simp,fun x hx=>by simp at hx,Use.nil _ _ _ _ _ _⟩
theorem ownR_name {k:Int} {s d:Nat} {w:World} {v:Value} {nm:List Int} {b:Nat} (h:RolR w v nm b) (hs:s≤b) (hb:b<w.heap.size):OwnR [] [] 0 0 s w (d+1) (.agg #[.int .i64 k,v,.slice none 0 0,.slice none 0 0]) (.mk k nm [] []) (leafB b 0 nm.length):=by
 have h0:OwB w none 0 0 [] 0 0:=⟨rfl,⟨by simp,by omega⟩,by simp,.inl rfl⟩;obtain ⟨a,c,rfl,h1,h2⟩:=h;refine ⟨⟨a,nm.length,c,none,0,0,none,0,0,b,0,0,0,0,0,fun _=>[],rfl,h1,h0,⟨rfl,⟨by simp,by omega⟩,.inl rfl⟩,by simp [leafB,leafK]⟩,leafB_nodup _ _ _,fun x hx=>?_,fun x hx=>?_⟩
 · obtain ⟨j,hj,rfl⟩:=mem_leafB.1 hx;exact h2 (fun e=>by rw [e] at hj;simp at hj) _ (by omega)
 obtain ⟨j,hj,rfl⟩:=mem_leafB.1 hx;exact .inl ⟨hs,hb⟩
def DcP (B:Nat) (a:Option Addr) (n y:Nat) (zs:List Int) (hi f:Nat) (w:World) (e:Ending) (w':World):Prop :=
 ∃ v0 v1 v2 v3 c L,e=.returned (.agg #[v0,v1,v2,v3])∧OwnR [] [] 0 0 w.heap.size w' (f+1) (.agg #[v0,v1,v2,v3]) c L∧Wh w' L (f+1) v3∧c.bulk≤4 ^ (f+1)∧wfC c=true∧Cur w' B a n y zs hi∧Bt B w.heap.size w w'
theorem four_le (f:Nat):4≤4 ^ (f+1):=by
 have:0<4 ^ f:=Nat.pow_pos (by omega);rw [Nat.pow_succ];omega
theorem kidS_37 {k:Int} (h:3≤k∧k≤7):kidS k=1∨kidS k=2:=by
 unfold kidS;split
 · omega
 split <;> simp
structure DrM (B:Nat) (a:Option Addr) (n y:Nat) (zs:List Int) (hi:Nat) (w w':World):Prop where
 cur:Cur w' B a n y zs hi
 bt:Bt B w.heap.size w w'
 box:BoxC w' w.heap.size (.int .i64 0) (.slice none 0 0) (.slice none 0 0) (.slice none 0 0)
theorem DrM.only {B:Nat} {a:Option Addr} {n y:Nat} {zs:List Int} {hi:Nat} {w w1 w2:World} (h:DrM B a n y zs hi w w1) (hB:B<w.heap.size) (c:Cur w2 B a n y zs hi) (o:Only B w1 w2):DrM B a n y zs hi w w2 :=
 ⟨c,h.bt.trans (o.bt.mono h.bt.size),(o.other _ h.box.lt (by omega)).trans h.box⟩
theorem DrM.below {B:Nat} {a:Option Addr} {n y:Nat} {zs:List Int} {hi:Nat} {w w1 w2:World} (h:DrM B a n y zs hi w w1) (hB:B<w.heap.size) (hb:Below w1.heap.size w1 w2):DrM B a n y zs hi w w2:=by
 have:=h.bt.size;exact ⟨h.cur.of (hb.mono (by omega)),h.bt.trans (Bt.of_below (hb.mono h.bt.size)),(hb.block _ h.box.lt).trans h.box⟩
theorem DrM.fin {B:Nat} {a:Option Addr} {n y:Nat} {zs:List Int} {hi f:Nat} {w W:World} (h:DrM B a n y zs hi w W) (hB:B<w.heap.size) {v0 v1 v2 v3:Value} {c:CN} {L:List (Addr × IntKind)} (hO:OwnR [] [] 0 0 (w.heap.size+1) W (f+1) (.agg #[v0,v1,v2,v3]) c L) (ai:Wh W L (f+1) v3) (hk:c.bulk≤4 ^ (f+1)) (aa:wfC c=true) :
    DcP B a n y zs hi f w (.returned (.agg #[v0,v1,v2,v3])) ((((W.setCell ⟨w.heap.size,0,none⟩ v0).setCell ⟨w.heap.size,1,none⟩ v1).setCell ⟨w.heap.size,2,none⟩ v2).setCell ⟨w.heap.size,3,none⟩ v3):=by
 obtain ⟨hV,hb⟩:=set4_mem h.box v0 v1 v2 v3 h.bt (Nat.le_refl _);have a0:=hO.us.ne (tkm_nil w.heap.size w) (o:=w.heap.size) (Nat.le_refl _) (Nat.lt_succ_self _);have I:=OwnR.toS hO (w':=((((W.setCell ⟨w.heap.size,0,none⟩ v0).setCell ⟨w.heap.size,1,none⟩ v1).setCell ⟨w.heap.size,2,none⟩ v2).setCell ⟨w.heap.size,3,none⟩ v3)) (fun x hx=>heap_set4 _ _ _ _ _ (a0 x hx)) (by simp);exact ⟨_,_,_,_,c,L,rfl,⟨I.ow,I.nd,I.fr,I.us.mono (Nat.le_refl _) (Nat.le_refl _) (Nat.le_succ _) (Nat.le_refl _)⟩,ai.keep (fun x hx=>heap_set4 _ _ _ _ _ (a0 x hx)),hk,aa,h.cur.keepB (fun q hq=>heap_set4 _ _ _ _ _ (by omega)),hb⟩
theorem wfL_snoc {cs:List CN} {c:CN} (h:wfL cs=true) (k:wfC c=true):wfL (cs++[c])=true:=by
 induction cs with
 | nil=>simp [wfL,k]
 | cons x xs ih =>
  rw [wfL,Bool.and_eq_true] at h;rw [List.cons_append,wfL,h.1,ih h.2];rfl
theorem wf_node {kd:Int} {role:List Int} {cs:List CN} (h3:3≤kd) (h7:kd≤7) (hr:roleFit (.mk kd [] role [])=true) (hl:(cs.length:Int)=kidS kd) (hw:wfL cs=true):wfC (.mk kd [] role cs)=true:=by
 have hn:nameFit (.mk kd [] role cs)=true:=by
  unfold nameFit;rw [if_neg (by show ¬ kd=2;omega)];rfl
 have ad:roleFit (.mk kd [] role cs)=true:=hr
 have hk:kidN kd=kidS kd:=by
  have:kd=3∨kd=4∨kd=5∨kd=6∨kd=7:=by omega
  rcases this with e | e | e | e | e <;> subst e <;> rfl
 have hd:decide (((CN.mk kd [] role cs).kids.length:Int)=kidN (CN.mk kd [] role cs).kind)=true:=decide_eq_true (by show (cs.length:Int)=kidN kd;rw [hk];exact hl);rw [wfC_eq,shapeB,hn,ad,hd];exact hw
theorem DrM.grown {B:Nat} {a:Option Addr} {n y:Nat} {zs:List Int} {hi:Nat} {w w1 w2:World} {row:Option Nat} {C:Nat} (h:DrM B a n y zs hi w w1) (hB:B<w.heap.size) (hg:w1.grownBy w2 row) (hr:∀ k,row=some k→C≤k) (hC:w.heap.size<C):DrM B a n y zs hi w w2:=by
 have:=h.bt.size;have hl:=h.box.lt;have hk:∀ q,q≤w.heap.size→w2.heap[q]?=w1.heap[q]?:=fun q hq=>hg.block q (by omega) (fun e=>by have:=hr q e.symm;omega)
 exact ⟨h.cur.keepB (fun q hq=>hk q (by omega)),h.bt.grown hg (by omega) (fun k e=>by have:=hr k e;omega),(hk _ (Nat.le_refl _)).trans h.box⟩
theorem DrM.set {B:Nat} {a:Option Addr} {n y:Nat} {zs:List Int} {hi:Nat} {w w1:World} {o i:Nat} (h:DrM B a n y zs hi w w1) (hB:B<w.heap.size) (ho:w.heap.size<o) (v:Value):DrM B a n y zs hi w (w1.setCell ⟨o,i,none⟩ v) :=
 ⟨h.cur.keepB (fun q hq=>Below.heap_setCell _ _ _ _ (by show q≠o;omega)),h.bt.set (.inl (by show w.heap.size≤o;omega)) v,(Below.heap_setCell _ _ _ _ (by show w.heap.size≠o;omega)).trans h.box⟩
theorem bulks_snoc {cs:List CN} {c:CN} {m K:Nat} (h:bulks cs≤m*(1+K)) (k:c.bulk≤K):bulks (cs++[c])≤(m+1)*(1+K):=by
 rw [bulks_append,Nat.succ_mul];simp only [bulks];omega
theorem bulk_node {kd:Int} {role:List Int} {cs:List CN} {m f:Nat} (hr:role.length≤1) (h:bulks cs≤m*(1+4 ^ (f+1))) (hm:m≤2):(CN.mk kd [] role cs).bulk≤4 ^ (f+1+1):=by
 have h4:=four_le f;have h2:m*(1+4 ^ (f+1))≤2*(1+4 ^ (f+1)):=Nat.mul_le_mul_right _ hm;rw [Nat.pow_succ (m:=f+1)];simp only [CN.bulk,List.length_nil];omega
set_option maxRecDepth 100000 in
set_option maxHeartbeats 4000000 in
theorem l2draw_zero {w:World} {B:Nat} {a:Option Addr} {n y:Nat} {zs:List Int} {hi:Nat} (c:Cur w B a n y zs hi) :
    Calls Tryz.prog 76 #[.pointer (some ⟨B,0,none⟩),.int .i64 0] w (DcP B a n y zs hi 0 w):=by
 have hB:=c.lt;have O:Below w.heap.size w (w.alloc (.cells #[.int .i64 0,.slice none 0 0,.slice none 0 0,.slice none 0 0] 30)):=(Below.refl _ _).alloc (Nat.le_refl _) _;have a6:Hid (DrM B a n y zs hi w (w.alloc (.cells #[.int .i64 0,.slice none 0 0,.slice none 0 0,.slice none 0 0] 30))):=⟨c.of (O.mono hB),Bt.of_below O,BoxC.new w _ _ _ _⟩;clear O c;go_enter Tryz.func76, Tryz.ntmps76;go_wp2_with fail;refine (l1Below_any a6.out.cur 8 (by omega)).mono ?_;rintro e w2 ⟨m,rfl,⟨au,ar⟩,a2,Z⟩;have D:Hid (DrM B a n y zs hi w w2):=a6.out.only hB a2 Z;clear a2 Z;obtain ⟨z0,z1,z2,z3⟩:=D.out.box.cells;have V:=D.out.box.frz 0;have U:=D.out.box.frz 1;have T:=D.out.box.frz 2;have R:=D.out.box.frz 3;by_cases h0:m=0
 · subst h0;go_wp2;obtain ⟨F,_⟩:=set4_mem D.out.box (.int .i64 0) (.slice none 0 0) (.slice none 0 0) (.slice none 0 0) D.out.bt (Nat.le_refl _);obtain ⟨s0,s1,s2,s3⟩:=F.cells;refine bodyPost_ret (v:=.agg #[.int .i64 0,.slice none 0 0,.slice none 0 0,.slice none 0 0]) (by simp [results, Tryz.results76,go_sem,s0,s1,s2,s3]) rfl ?_;exact DrM.fin D.out hB (ownR_nul 0 _ _ _) (Wh.nil _ _ _) (by simp [CN.bulk,bulks]) (by rw [wfC_eq];rfl)
 have az:(m == 0)=false:=by simpa using h0
 by_cases h1:m=1
 · subst h1;go_wp2;obtain ⟨F,_⟩:=set4_mem D.out.box (.int .i64 1) (.slice none 0 0) (.slice none 0 0) (.slice none 0 0) D.out.bt (Nat.le_refl _);obtain ⟨s0,s1,s2,s3⟩:=F.cells;refine bodyPost_ret (v:=.agg #[.int .i64 1,.slice none 0 0,.slice none 0 0,.slice none 0 0]) (by simp [results, Tryz.results76,go_sem,s0,s1,s2,s3]) rfl ?_;exact DrM.fin D.out hB (ownR_nul 1 _ _ _) (Wh.nil _ _ _) (by simp [CN.bulk,bulks]) (by rw [wfC_eq];rfl)
 have ay:(m == 1)=false:=by simpa using h1
 obtain ⟨W3,N⟩:∃ W,Hid (W=w2.alloc (.cells #[.string { data:=#[65] },.string { data:=#[66] },.string { data:=#[67] }] 9)):=⟨_,rfl⟩;have a4:Below w2.heap.size w2 W3:=by rw [N.out];exact (Below.refl _ _).alloc (Nat.le_refl _) _
 have Y:w2.heap.size<W3.heap.size:=by rw [N.out];simp
 have aj:Hid (∀ i:Nat,i<3→∃ s:ByteArray,W3.cell? ⟨w2.heap.size,i,none⟩=some (.string s)∧s.size≤1∧shapeB (.mk 2 (numsOf s) [] [])=true):=by
  intro i hi;rw [N.out]
  match i,hi with
  | 0,_ | 1,_ | 2,_=>exact ⟨_,by simp;rfl,by decide,by kernel_rfl⟩
 have a5:Hid (DrM B a n y zs hi w W3):=D.out.below hB a4;clear a4 z0 z1 z2 z3 V U T R;go_wp2_with fail;rw [← N.out];refine (l1Below_any a5.out.cur 3 (by omega)).mono ?_;rintro e w4 ⟨x,rfl,⟨a9,a8⟩,a1,H⟩;obtain ⟨j,hj⟩:∃ j:Nat,x=(j:Int):=⟨x.toNat,by omega⟩;subst hj;have af:j<3:=by omega
 obtain ⟨s,X,ap,G⟩:=aj.out j af;have ak:Hid (wfC (.mk 2 (numsOf s) [] [])=true):=by unfold Hid;rw [wfC_eq,G];rfl
 clear G;have ao:w.heap.size<w2.heap.size:=D.out.box.lt;have an:w4.cell? ⟨w2.heap.size,j,none⟩=some (.string s):=(World.cell?_of_block (w:=W3) (H.other w2.heap.size Y (by omega))).trans X;have am:Hid (DrM B a n y zs hi w w4):=a5.out.only hB a1 H;have aq:w2.heap.size<w4.heap.size:=Nat.lt_of_lt_of_le Y H.below.size;have av:(j:Int)<3:=by omega
 obtain ⟨W8,J⟩:∃ W,Hid (W=Lib.bytesWorld w4 5 s):=⟨_,rfl⟩;obtain ⟨cp,a7⟩:∃ cp,Hid (cp=grownCap w4 s.size 0 5):=⟨_,rfl⟩
 have ax:(convert 9 22 (.string s)).run Tryz.prog w4=.ok (.slice (some ⟨w4.heap.size,0,none⟩) s.size cp) W8:=by
  rw [J.out,a7.out];exact Lib.run_convert_string_bytes w4 9 22 5 s Tryz.underlying9 Tryz.underlying22 Tryz.underlying5
 have a3:Below w4.heap.size w4 W8:=by rw [J.out];exact bytes_below w4 5 s
 have ac:w4.heap.size<W8.heap.size:=by rw [J.out,Lib.bytesWorld_size];omega
 have E:Hid (DrM B a n y zs hi w W8):=am.out.below hB a3;have al:Hid (RolR W8 (.slice (some ⟨w4.heap.size,0,none⟩) s.size cp) (numsOf s) w4.heap.size):=by unfold Hid;rw [J.out,a7.out];exact rol_conv w4 s (by omega)
 clear X a1 H a3 a9 a8;obtain ⟨z0,z1,z2,z3⟩:=E.out.box.cells;have V:=E.out.box.frz 0;have U:=E.out.box.frz 1;have T:=E.out.box.frz 2;have R:=E.out.box.frz 3;go_wp2;obtain ⟨F,_⟩:=set4_mem E.out.box (.int .i64 2) (.slice (some ⟨w4.heap.size,0,none⟩) s.size cp) (.slice none 0 0) (.slice none 0 0) E.out.bt (Nat.le_refl _);obtain ⟨s0,s1,s2,s3⟩:=F.cells;refine bodyPost_ret (v:=.agg #[.int .i64 2,.slice (some ⟨w4.heap.size,0,none⟩) s.size cp,.slice none 0 0,.slice none 0 0]) (by simp [results, Tryz.results76,go_sem,s0,s1,s2,s3]) rfl ?_;exact DrM.fin E.out hB (ownR_name al.out (by omega) ac) (Wh.nil _ _ _) (by have:=four_le 0;simp [CN.bulk,bulks,numsOf_len];omega) ak.out
end

section
open Go.RowKit
theorem Code.wp_name {P:Program} {c:Code} {Q:Exit→Act→World→Prop} {a:Act} {w:World} (h:∀ W,W=w→c.wp P Q a W):c.wp P Q a w:=h w rfl
theorem getD_app {α:Type} {l:List α} {x d:α} {i:Nat} (h:i<l.length):(l++[x]).getD i d=l.getD i d:=by rw [List.getD,List.getElem?_append_left h,List.getD]
theorem ownsR_same {w w':World} {base e size n:Nat} {v:Value} {xs:List Value} (h:w.ownsRow base e size v n xs) (hs:Same base w.heap.size w w'):w'.ownsRow base e size v n xs:=by
 obtain ⟨h1,h2⟩:=h;refine ⟨h1,?_⟩;rcases h2 with h2 | ⟨g,A,cur,hv,hg,hh,r⟩
 · exact .inl h2
 exact .inr ⟨g,A,cur,hv,hg,by rw [hs g hg (Array.getElem?_eq_some_iff.1 hh).1];exact hh,r⟩
theorem ownsR_base {w:World} {base base' e size n:Nat} {v:Value} {xs:List Value} (h:w.ownsRow base e size v n xs) (hb:base'≤base):w.ownsRow base' e size v n xs:=by
 obtain ⟨h1,h2⟩:=h;refine ⟨h1,?_⟩;rcases h2 with h2 | ⟨g,A,cur,hv,hg,r⟩
 · exact .inl h2
 exact .inr ⟨g,A,cur,hv,Nat.le_trans hb hg,r⟩
theorem ownsR_other {w w':World} {base base' e e' size size' n n':Nat} {v v':Value} {xs xs':List Value} (h:w.ownsRow base e size v n xs) (h':w.ownsRow base' e' size' v' n' xs') (G:e≠e') (g:w.grownBy w' v'.ownBlock):w'.ownsRow base e size v n xs:=by
 refine h.kept g ?_;rcases h.2 with ⟨rfl,_⟩ | ⟨q,A,cur,rfl,_,hh,_⟩
 · exact .inl rfl
 right
 intro he;rcases h'.2 with ⟨rfl,_⟩ | ⟨q',cap',cur',rfl,_,D,_⟩
 · simp [Value.ownBlock] at he
 simp only [Value.ownBlock,Option.some.injEq] at he;subst he;rw [hh] at D;simp only [Option.some.injEq,Obj.cells.injEq] at D;exact G D.2.1
def OwnBs (base:Nat) (w:World) (v:Value) (l:List Bool):Prop:=w.ownsRow base 4 1 v l.length (l.map Value.bool)
theorem OwnBs.same {base:Nat} {w w':World} {v:Value} {l:List Bool} (h:OwnBs base w v l) (hs:Same base w.heap.size w w'):OwnBs base w' v l:=ownsR_same h hs
theorem OwnBs.rb {base:Nat} {w:World} {v:Value} {l:List Bool} (h:OwnBs base w v l):∃ a c,v=.slice a l.length c∧RB base w.heap.size w a l.length c l:=by
 have hh:=h;rcases h.2 with ⟨hv,h0⟩ | ⟨g,A,cur,hv,hg,hb,F,E,_⟩
 · exact ⟨none,0,by rw [hv,h0],rfl,by omega,.inl h0⟩
 refine ⟨some ⟨g,0,none⟩,A,hv,rfl,⟨F,by unfold maxLen at E;omega⟩,.inr ⟨g,0,rfl,hg,(Array.getElem?_eq_some_iff.1 hb).1,fun i hi=>?_⟩⟩;unfold OwnBs at hh;rw [hv] at hh;rw [Nat.zero_add,hh.cellAt i (by omega)];exact ⟨.bool (l.getD i false),by simp [List.getD,hi],rfl⟩
def OwnFF (base:Nat) (w:World) (v:Value) (L:List (List Bool)):Prop :=
 ∃ vs:List Value,w.ownsRow base 63 1 v L.length vs∧∀ i,i<L.length→OwnBs base w (vs.getD i undef) (L.getD i [])
theorem OwnFF.nil (base:Nat) (w:World):OwnFF base w (.slice none 0 0) []:=⟨[],World.ownsRow_nil _ _ _ _,fun i hi=>by simp at hi⟩
theorem OwnFF.same {base:Nat} {w w':World} {v:Value} {L:List (List Bool)} (h:OwnFF base w v L) (hs:Same base w.heap.size w w'):OwnFF base w' v L:=by
 obtain ⟨vs,h1,h2⟩:=h;exact ⟨vs,ownsR_same h1 hs,fun i hi=>(h2 i hi).same hs⟩
theorem OwnFF.base {base base':Nat} {w:World} {v:Value} {L:List (List Bool)} (h:OwnFF base w v L) (hb:base'≤base):OwnFF base' w v L:=by
 obtain ⟨vs,h1,h2⟩:=h;exact ⟨vs,ownsR_base h1 hb,fun i hi=>ownsR_base (h2 i hi) hb⟩
theorem OwnFF.push {base:Nat} {W w':World} {v v' s:Value} {vs:List Value} {L:List (List Bool)} {fl:List Bool} (y:W.ownsRow base 63 1 v L.length vs) (H:∀ i,i<L.length→OwnBs base W (vs.getD i undef) (L.getD i []))
    (hs:OwnBs base W s fl) (hn:w'.ownsRow base 63 1 v' (L.length+1) (vs++[s])) (hg:W.grownBy w' v.ownBlock):OwnFF base w' v' (L++[fl]):=by
 refine ⟨vs++[s],by simpa using hn,fun i hi=>?_⟩;have hl:vs.length=L.length:=by simpa using y.1
 by_cases h:i<L.length
 · rw [getD_app (by omega),getD_app h];exact ownsR_other (H i h) y (by decide) hg
 have:i=L.length:=by simp at hi;omega
 subst this;have e1:(vs++[s]).getD L.length undef=s:=by rw [← hl];simp [List.getD]
 have e2:(L++[fl]).getD L.length []=fl:=by simp [List.getD]
 rw [e1,e2];exact ownsR_other hs y (by decide) hg
theorem OwnFF.other {base base' e' size' n':Nat} {w w':World} {v v':Value} {L:List (List Bool)} {xs':List Value} (h:OwnFF base w v L) (h':w.ownsRow base' e' size' v' n' xs') (h1:63≠e') (h2:4≠e') (g:w.grownBy w' v'.ownBlock):OwnFF base w' v L:=by
 obtain ⟨vs,q1,q2⟩:=h;exact ⟨vs,ownsR_other q1 h' h1 g,fun i hi=>ownsR_other (q2 i hi) h' h2 g⟩
theorem OwnFF.rff {base:Nat} {w:World} {v:Value} {L:List (List Bool)} (h:OwnFF base w v L):∃ a c,v=.slice a L.length c∧RFF base w.heap.size w a L.length c L:=by
 obtain ⟨vs,h1,h2⟩:=h;have hh:=h1;rcases h1.2 with ⟨hv,h0⟩ | ⟨g,A,cur,hv,hg,hb,F,E,_⟩
 · exact ⟨none,0,by rw [hv,h0],rfl,by omega,.inl h0⟩
 refine ⟨some ⟨g,0,none⟩,A,hv,rfl,⟨F,by unfold maxLen at E;omega⟩,.inr ⟨g,0,rfl,hg,(Array.getElem?_eq_some_iff.1 hb).1,fun i hi=>?_⟩⟩;rw [hv] at hh;have hl:vs.length=L.length:=by simpa using hh.1
 obtain ⟨a,c,e,hr⟩:=(h2 i hi).rb;refine ⟨vs.getD i undef,?_,a,_,c,e,hr⟩;rw [Nat.zero_add,hh.cellAt i (by omega)];simp [List.getD,hl,hi]
def WordAt (base:Nat) (w:World) (v:Value) (z:List Int):Prop :=
 ∃ g c cur f,v=.slice (some ⟨g,0,none⟩) z.length c∧base≤g∧w.heap[g]?=some (.cells cur 5 f)∧(z.length≤c∧c≤9223372036854775807)∧(∀ i,0≤z.getD i 0∧z.getD i 0≤255)∧∀ i,i<z.length→cur[i]?=some (.int .u8 (z.getD i 0))
theorem WordAt.same {base:Nat} {w w':World} {v:Value} {z:List Int} (h:WordAt base w v z) (hs:Same base w.heap.size w w'):WordAt base w' v z:=by
 obtain ⟨g,c,cur,f,e,h1,h2,h3⟩:=h;exact ⟨g,c,cur,f,e,h1,(hs g h1 (Array.getElem?_eq_some_iff.1 h2).1).trans h2,h3⟩
theorem WordAt.base {base base':Nat} {w:World} {v:Value} {z:List Int} (h:WordAt base w v z) (hb:base'≤base):WordAt base' w v z:=by
 obtain ⟨g,c,cur,f,e,h1,h2⟩:=h;exact ⟨g,c,cur,f,e,Nat.le_trans hb h1,h2⟩
theorem WordAt.slb {base:Nat} {w:World} {v:Value} {z:List Int} (h:WordAt base w v z):SlB base w.heap.size w v z:=by
 obtain ⟨g,c,cur,f,e,h1,h2,h3,h4,h5⟩:=h;refine ⟨_,_,c,e,rfl,h3,h4,.inr ⟨g,0,rfl,h1,(Array.getElem?_eq_some_iff.1 h2).1,fun i hi=>?_⟩⟩;rw [Nat.zero_add];simp [World.cell?,h2,h5 i hi]
theorem WordAt.other {base base' e' size' n':Nat} {w w':World} {v v':Value} {z:List Int} {xs':List Value} (h:WordAt base w v z) (h':w.ownsRow base' e' size' v' n' xs') (G:5≠e') (hg:w.grownBy w' v'.ownBlock):WordAt base w' v z:=by
 obtain ⟨g,c,cur,f,e,h1,h2,h3⟩:=h;refine ⟨g,c,cur,f,e,h1,(hg.block g (Array.getElem?_eq_some_iff.1 h2).1 (fun he=>?_)).trans h2,h3⟩;rcases h'.2 with ⟨rfl,_⟩ | ⟨q',cap',cur',rfl,_,D,_⟩
 · simp [Value.ownBlock] at he
 simp only [Value.ownBlock,Option.some.injEq] at he;subst he;rw [h2] at D;simp only [Option.some.injEq,Obj.cells.injEq] at D;exact G D.2.1
theorem word_lit {base:Nat} {w:World} {g:Nat} {x:Int} {f:Nat × Nat} (hb:w.heap[g]?=some (.cells #[.int .u8 x] 5 f)) (hg:base≤g) (hx:0≤x∧x≤255):WordAt base w (.slice (some ⟨g,0,none⟩) 1 1) [x]:=by
 refine ⟨g,1,_,f,rfl,hg,hb,⟨Nat.le_refl _,by omega⟩,fun i=>?_,fun i hi=>?_⟩
 · match i with
   | 0=>exact hx
   | i+1=>simp
 have:i=0:=by simp at hi;omega
 subst this;rfl
def OwnSS (base:Nat) (w:World) (v:Value) (L:List (List Int)):Prop :=
 ∃ vs:List Value,w.ownsRow base 22 1 v L.length vs∧∀ i,i<L.length→WordAt base w (vs.getD i undef) (L.getD i [])
theorem OwnSS.same {base:Nat} {w w':World} {v:Value} {L:List (List Int)} (h:OwnSS base w v L) (hs:Same base w.heap.size w w'):OwnSS base w' v L:=by
 obtain ⟨vs,h1,h2⟩:=h;exact ⟨vs,ownsR_same h1 hs,fun i hi=>(h2 i hi).same hs⟩
theorem OwnSS.base {base base':Nat} {w:World} {v:Value} {L:List (List Int)} (h:OwnSS base w v L) (hb:base'≤base):OwnSS base' w v L:=by
 obtain ⟨vs,h1,h2⟩:=h;exact ⟨vs,ownsR_base h1 hb,fun i hi=>(h2 i hi).base hb⟩
theorem OwnSS.push {base:Nat} {W w':World} {v v' s:Value} {vs:List Value} {L:List (List Int)} {z:List Int} (y:W.ownsRow base 22 1 v L.length vs) (H:∀ i,i<L.length→WordAt base W (vs.getD i undef) (L.getD i []))
    (hs:WordAt base W s z) (hn:w'.ownsRow base 22 1 v' (L.length+1) (vs++[s])) (hg:W.grownBy w' v.ownBlock):OwnSS base w' v' (L++[z]):=by
 refine ⟨vs++[s],by simpa using hn,fun i hi=>?_⟩;have hl:vs.length=L.length:=by simpa using y.1
 by_cases h:i<L.length
 · rw [getD_app (by omega),getD_app h];exact (H i h).other y (by decide) hg
 have:i=L.length:=by simp at hi;omega
 subst this;have e1:(vs++[s]).getD L.length undef=s:=by rw [← hl];simp [List.getD]
 have e2:(L++[z]).getD L.length []=z:=by simp [List.getD]
 rw [e1,e2];exact hs.other y (by decide) hg
theorem OwnSS.other {base base' e' size' n':Nat} {w w':World} {v v':Value} {L:List (List Int)} {xs':List Value} (h:OwnSS base w v L) (h':w.ownsRow base' e' size' v' n' xs') (h1:22≠e') (h2:5≠e') (g:w.grownBy w' v'.ownBlock):OwnSS base w' v L:=by
 obtain ⟨vs,q1,q2⟩:=h;exact ⟨vs,ownsR_other q1 h' h1 g,fun i hi=>(q2 i hi).other h' h2 g⟩
theorem OwnSS.rss {base:Nat} {w:World} {v:Value} {L:List (List Int)} (h:OwnSS base w v L):∃ a c,v=.slice a L.length c∧RSS base w.heap.size w a L.length c L:=by
 obtain ⟨vs,h1,h2⟩:=h;have hh:=h1;rcases h1.2 with ⟨hv,h0⟩ | ⟨g,A,cur,hv,hg,hb,F,E,_⟩
 · exact ⟨none,0,by rw [hv,h0],rfl,by omega,.inl h0⟩
 refine ⟨some ⟨g,0,none⟩,A,hv,rfl,⟨F,by unfold maxLen at E;omega⟩,.inr ⟨g,0,rfl,hg,(Array.getElem?_eq_some_iff.1 hb).1,fun i hi=>?_⟩⟩;rw [hv] at hh;have hl:vs.length=L.length:=by simpa using hh.1
 refine ⟨vs.getD i undef,?_,(h2 i hi).slb⟩;rw [Nat.zero_add,hh.cellAt i (by omega)];simp [List.getD,hl,hi]
theorem ownI_rd {base:Nat} {w:World} {v:Value} {zs:List Int} (h:OwnI base w v zs):∃ a c,v=.slice a zs.length c∧RI base w.heap.size w a zs.length c zs:=by
 obtain ⟨a,c,_,e,hr,_⟩:=h.form;exact ⟨a,c,e,hr⟩
theorem ownI_same {base:Nat} {w w':World} {v:Value} {zs:List Int} (h:OwnI base w v zs) (hs:Same base w.heap.size w w'):OwnI base w' v zs:=ownsR_same h hs
theorem OwnI.mono0 {base base':Nat} {w:World} {v:Value} {zs:List Int} (h:OwnI base w v zs) (hb:base'≤base):OwnI base' w v zs:=ownsR_base h hb
theorem RdN.tl {α:Type} {d:α} {R:Value→α→Prop} {lo hi:Nat} {w:World} {b off n A:Nat} {xs:List α} (h:RdN d R lo hi w (some ⟨b,off,none⟩) n A xs) (hn:1≤n) (b':Option Addr) (hb:1<n→b'=some ⟨b,off+1,none⟩):RdN d R lo hi w b' (n - 1) (A - 1) (xs.drop 1):=by
 obtain ⟨h1,h2,h3⟩:=h;refine ⟨by simp [h1],by omega,?_⟩;by_cases h0:n - 1=0
 · exact .inl h0
 right
 rcases h3 with q | ⟨b1,o1,e,q1,q2,q3⟩
 · omega
 simp only [Option.some.injEq,Addr.mk.injEq,and_true] at e;obtain ⟨rfl,rfl⟩:=e;refine ⟨_,_,hb (by omega),q1,q2,fun i hi=>?_⟩;obtain ⟨v,c,r⟩:=q3 (i+1) (by omega);refine ⟨v,by rw [Nat.add_assoc,Nat.add_comm 1 i];exact c,?_⟩;have:(xs.drop 1).getD i d=xs.getD (i+1) d:=by simp [List.getD]
 rw [this];exact r
end

end Go.Proofs.YtnmljalcndfjmaaGreat
