/- Several texts in one: DrawAx9, DrawAx. -/
import Derived.Test.YtnmljalcndfjmaaGreatNG28
import Derived.Test.YtnmljalcndfjmaaGreatNG1
namespace Go.Proofs.YtnmljalcndfjmaaGreat

section
open Go.RowKit
abbrev opA9_0 : Oper := { dst := some 32, op := Op.buildSlice 83 2 #[(0, Operand.const (Value.string { data := #[114] })), (1, Operand.const (Value.string { data := #[115] }))], type := 83, pos := "l03_kb.go:264", after := #[], guard := none }
abbrev opA9_1 : Oper := { dst := some 33, op := Op.move (Operand.tmp 0), type := 57, pos := "l03_kb.go:264", after := #[], guard := none }
abbrev opA9_2 : Oper := { dst := some 34, op := Op.call { callee := Callee.value (Operand.func 46), args := #[Operand.tmp 33, Operand.const (Value.int IntKind.i64 2)], argTypes := #[57, 3] }, type := 3, pos := "l03_kb.go:264", after := #[{ on := 1, ground := Ground.data }], guard := none }
abbrev opA9_3 : Oper := { dst := some 35, op := Op.indexAddr 83 (Operand.tmp 32) (Operand.tmp 34), type := 0, pos := "l03_kb.go:264", after := #[{ on := 0, ground := Ground.data }, { on := 2, ground := Ground.data }], guard := none }
abbrev opA9_4 : Oper := { dst := some 36, op := Op.load 9 (Operand.tmp 35), type := 9, pos := "l03_kb.go:264", after := #[{ on := 3, ground := Ground.data }], guard := none }
abbrev opA9_5 : Oper := { dst := some 37, op := Op.convert 9 22 (Operand.tmp 36), type := 22, pos := "l03_kb.go:264", after := #[{ on := 4, ground := Ground.data }], guard := none }
abbrev opA9_6 : Oper := { dst := some 38, op := Op.move (Operand.tmp 3), type := 22, pos := "l03_kb.go:264", after := #[], guard := none }
abbrev opA9_7 : Oper := { dst := some 39, op := Op.move (Operand.tmp 0), type := 57, pos := "l03_kb.go:264", after := #[], guard := none }
abbrev opA9_8 : Oper := { dst := some 40, op := Op.call { callee := Callee.value (Operand.func 118), args := #[Operand.tmp 39], argTypes := #[57] }, type := 22, pos := "l03_kb.go:264", after := #[{ on := 7, ground := Ground.data }, { on := 2, ground := Ground.chain }], guard := none }
abbrev opA9_9 : Oper := { dst := some 41, op := Op.build 49 #[(0, Operand.const (Value.int IntKind.i64 5)), (3, Operand.tmp 37), (5, Operand.tmp 38), (6, Operand.tmp 40)], type := 49, pos := "l03_kb.go:264", after := #[{ on := 5, ground := Ground.data }, { on := 6, ground := Ground.data }, { on := 8, ground := Ground.data }], guard := none }
abbrev opA9_10 : Oper := { dst := none, op := Op.store 49 (Operand.tmp 2) (Operand.tmp 41), type := 0, pos := "l03_kb.go:264", after := #[{ on := 9, ground := Ground.data }, { on := 8, ground := Ground.chain }, { on := 0, ground := Ground.phase }, { on := 1, ground := Ground.phase }, { on := 2, ground := Ground.phase }, { on := 3, ground := Ground.phase }, { on := 4, ground := Ground.phase }, { on := 5, ground := Ground.phase }, { on := 6, ground := Ground.phase }, { on := 7, ground := Ground.phase }, { on := 8, ground := Ground.phase }, { on := 9, ground := Ground.phase }], guard := none }
def opsA9:Array Oper:=#[opA9_0,opA9_1,opA9_2,opA9_3,opA9_4,opA9_5,opA9_6,opA9_7,opA9_8,opA9_9,opA9_10]
def tag9:Nat→RK
 | 0=>.row
 | 1=>.cur
 | 2=>.idx
 | 3=>.adr
 | 4=>.str
 | 5=>.word
 | 6=>.word
 | 7=>.cur
 | 8=>.word
 | 9=>.axm 5
 | _=>.cur
set_option maxRecDepth 100000 in
set_option maxHeartbeats 4000000 in
theorem stepA9 {B:Nat} {da:Option Addr} {n y:Nat} {zs:List Int} {hi:Nat} {w0:World} (hB:B<w0.heap.size) {Q:Exit→Act→World→Prop} (l:Array Bool) (a:Act) (w:World) (i:Nat) (hI:DI 10 32 tag9 B da n y zs hi w0 (AxF B da n y zs hi w0 5) l a w) (h:i∈Region.ready .any opsA9 l):wpOp Tryz.prog opsA9 Q i (DI 10 32 tag9 B da n y zs hi w0 (AxF B da n y zs hi w0 5) (l.setIfInBounds i true)) a w:=by
 obtain ⟨hn,a0,_⟩:=ready_false h;have G:i<11:=a0;obtain ⟨hM,t0,t2,t3,hf⟩:=hI.mem (hI.open hn G);have a4:=hM.lt;have:i=0∨i=1∨i=2∨i=3∨i=4∨i=5∨i=6∨i=7∨i=8∨i=9∨i=10:=by omega
 rcases this with rfl | rfl | rfl | rfl | rfl | rfl | rfl | rfl | rfl | rfl | rfl
 · refine wpOp_of (o:=opA9_0) rfl rfl ?_;go_simp;have hb:Below w.heap.size w (w.alloc (.cells #[.string { data:=#[114] },.string { data:=#[115] }] 9)):=(Below.refl _ _).alloc (Nat.le_refl _) _;exact hI.step hB (by omega) (by omega) hn (hM.below hB hb) (Bt.of_below hb) ⟨w.heap.size,rfl,by omega,_,_,allocAtA rfl,by decide,by decide⟩
 · refine wpOp_of (o:=opA9_1) rfl rfl ?_;go_simp;exact hI.step hB (by omega) (by omega) hn hM (Bt.refl _ _ _) rfl
 · have d1:=dep_done h (o:=opA9_2) rfl (k:=1) (by decide);have r1:=hf 1 (by omega) d1;have c1:a.tmps[33]?.getD undef=.pointer (some ⟨B,0,none⟩):=r1;refine wpOp_of (o:=opA9_2) rfl rfl ?_;go_simp;refine (l1Below_any hM.cur 2 (by omega)).mono ?_;rintro e w2 ⟨x,rfl,⟨O,a3⟩,hc,ho⟩;exact hI.step hB (by omega) (by omega) hn (hM.only hB hc ho) ho.bt ⟨x.toNat,by omega,by rw [Int.toNat_of_nonneg O]⟩
 · have d0:=dep_done h (o:=opA9_3) rfl (k:=0) (by decide);have r0:=hf 0 (by omega) d0;have d2:=dep_done h (o:=opA9_3) rfl (k:=2) (by decide);have r2:=hf 2 (by omega) d2;obtain ⟨g,hg,hs⟩:=r0;obtain ⟨j,hj,hv⟩:=r2;have c0:a.tmps[32]?.getD undef=.slice (some ⟨g,0,none⟩) 2 2:=hg;have c1:a.tmps[34]?.getD undef=.int .i64 j:=hv;have a5:(j:Int)<2:=by omega
   refine wpOp_of (o:=opA9_3) rfl rfl ?_;go_simp;exact hI.step hB (by omega) (by omega) hn hM (Bt.refl _ _ _) ⟨g,j,rfl,hj,hs⟩
 · have d3:=dep_done h (o:=opA9_4) rfl (k:=3) (by decide);have r3:=hf 3 (by omega) d3;obtain ⟨g,j,hg,hj,hs⟩:=r3;have c0:a.tmps[35]?.getD undef=.pointer (some ⟨g,j,none⟩):=hg;obtain ⟨_,s1,s2,hh,l1,l2⟩:=hs
   obtain ⟨s,hc,hl⟩:∃ s:ByteArray,w.cell? ⟨g,j,none⟩=some (.string s)∧s.size≤1:=by
    match j,hj with
    | 0,_=>exact ⟨s1,by simp [World.cell?,hh],l1⟩
    | 1,_=>exact ⟨s2,by simp [World.cell?,hh],l2⟩
   refine wpOp_of (o:=opA9_4) rfl rfl ?_;go_simp;exact hI.step hB (by omega) (by omega) hn hM (Bt.refl _ _ _) ⟨s,rfl,hl⟩
 · have d4:=dep_done h (o:=opA9_5) rfl (k:=4) (by decide);have r4:=hf 4 (by omega) d4;obtain ⟨s,hs,hl⟩:=r4;have c0:a.tmps[36]?.getD undef=.string s:=hs;have a6:(convert 9 22 (.string s)).run Tryz.prog w=.ok (.slice (some ⟨w.heap.size,0,none⟩) s.size (grownCap w s.size 0 5)) (Lib.bytesWorld w 5 s):=Lib.run_convert_string_bytes w 9 22 5 s Tryz.underlying9 Tryz.underlying22 Tryz.underlying5;refine wpOp_of (o:=opA9_5) rfl rfl ?_;go_simp;have hb:=bytes_below w 5 s;exact hI.step hB (by omega) (by omega) hn (hM.below hB hb) (Bt.of_below hb) ⟨_,_,_,_,rfl,(bw_rd w s (by omega)).mono (by omega) (Nat.le_refl _),by rw [numsOf_len];exact hl⟩
 · refine wpOp_of (o:=opA9_6) rfl rfl ?_;go_simp;exact hI.step hB (by omega) (by omega) hn hM (Bt.refl _ _ _) t3
 · refine wpOp_of (o:=opA9_7) rfl rfl ?_;go_simp;exact hI.step hB (by omega) (by omega) hn hM (Bt.refl _ _ _) rfl
 · have d7:=dep_done h (o:=opA9_8) rfl (k:=7) (by decide);have r7:=hf 7 (by omega) d7;have c7:a.tmps[39]?.getD undef=.pointer (some ⟨B,0,none⟩):=r7;refine wpOp_of (o:=opA9_8) rfl rfl ?_;go_simp;refine (l3ind_any hM.cur).mono ?_;rintro e w2 hP;obtain ⟨b,k,c,z,rfl,hr,hz,hc,hb⟩:=hP;exact hI.step hB (by omega) (by omega) hn (hM.next hB hc hb) hb ⟨b,k,c,z,rfl,hr.mono (by omega) (Nat.le_refl _),hz⟩
 · have d5:=dep_done h (o:=opA9_9) rfl (k:=5) (by decide);have r5:=hf 5 (by omega) d5;have d6:=dep_done h (o:=opA9_9) rfl (k:=6) (by decide);have r6:=hf 6 (by omega) d6;have d8:=dep_done h (o:=opA9_9) rfl (k:=8) (by decide);have r8:=hf 8 (by omega) d8;obtain ⟨b5,k5,c5,z5,U,Z,N⟩:=r5;have e5:a.tmps[37]?.getD undef=.slice b5 k5 c5:=U;obtain ⟨b6,k6,c6,z6,T,Y,J⟩:=r6;have e6:a.tmps[38]?.getD undef=.slice b6 k6 c6:=T;obtain ⟨b8,k8,c8,z8,R,X,I⟩:=r8;have e8:a.tmps[40]?.getD undef=.slice b8 k8 c8:=R;refine wpOp_of (o:=opA9_9) rfl rfl ?_;go_simp;exact hI.step hB (by omega) (by omega) hn hM (Bt.refl _ _ _) (AxV.words 5 Z (rdNil _ _ _) Y X N (Nat.zero_le _) J I)
 have D:∀ k,k<10→Dn l k:=by
  intro k hk;have:k=0∨k=1∨k=2∨k=3∨k=4∨k=5∨k=6∨k=7∨k=8∨k=9:=by omega
  rcases this with rfl | rfl | rfl | rfl | rfl | rfl | rfl | rfl | rfl | rfl <;> exact dep_done h (o:=opA9_10) rfl (by decide)
 have r9:=hf 9 (by omega) (D 9 (by omega));obtain ⟨cs,H,E,F⟩:=AxV.one r9;have a2:AxV (w0.heap.size+1) w 5 (.agg cs):=by rw [← H];exact r9
 refine wpOp_of (o:=opA9_10) rfl rfl ?_;refine wp_store_row 49 (.tmp 2) (.tmp 41) rfl w0.heap.size cs (by simpa [Act.eval] using t2) (by simpa [Act.eval] using H) 49 zeroA hM.box (by rw [E];exact infoAx13) (by rw [E];rfl) F ?_;exact hI.stop D ⟨cs,w,hM,rfl,a2,E,t2,hI.df⟩
theorem ordA9:∀ (i:Nat) (o:Oper),opsA9[i]?=some o→∀ e∈o.after.toList,e.on<i:=by
 intro i o ho e he;have hi:i<11:=(Array.getElem?_eq_some_iff.1 ho).1;have:i=0∨i=1∨i=2∨i=3∨i=4∨i=5∨i=6∨i=7∨i=8∨i=9∨i=10:=by omega
 rcases this with rfl | rfl | rfl | rfl | rfl | rfl | rfl | rfl | rfl | rfl | rfl <;> (obtain rfl:_=o:=Option.some.inj ho;revert e;decide)
theorem regA9 {B:Nat} {da:Option Addr} {n y:Nat} {zs:List Int} {hi:Nat} {w0:World} (hB:B<w0.heap.size) {Q:Exit→Act→World→Prop} {id:Nat} {a:Act} {w:World} (V:42≤a.tmps.size) (a1:a.defers=[]) (hM:DgM (.cells zeroA 49) B da n y zs hi w0 w) (t0:a.tmps[0]?.getD undef=.pointer (some ⟨B,0,none⟩)) (t2:a.tmps[2]?.getD undef=.pointer (some ⟨w0.heap.size,0,none⟩)) (t3:RV (w0.heap.size+1) B .word w (a.tmps[3]?.getD undef))
    (hQ:∀ a w,AxF B da n y zs hi w0 5 a w→Q .normal a w):(Code.region id opsA9 true).wp Tryz.prog Q a w:=by
 refine wp_region_any (by kernel_rfl) ?_
 have A:∀ k,¬ Dn (Array.replicate 11 false) k:=by
  intro k hk;unfold Dn at hk;rw [Array.getD_eq_getD_getElem?,Array.getElem?_replicate] at hk
  split at hk <;> simp at hk
 refine wpAny_inv (DI 10 32 tag9 B da n y zs hi w0 (AxF B da n y zs hi w0 5) ) (fun l a w i hI hi=>stepA9 hB l a w i hI hi) (fun l a w hI hr=>hQ a w (hI.fin (all_done (by rw [hI.sz];rfl) hr ordA9 10 (by decide)))) 11 _ _ _ (by decide) ?_;exact ⟨by simp;rfl,V,a1,fun q=>absurd q (A _),fun q=>absurd q (A _),fun _=>⟨hM.drew,t0,t2,RV.next (w':=w.drew) t3 (by omega) (Bt.refl _ _ _).drew,fun k _ q=>absurd q (A _)⟩⟩
end

section
open Go.RowKit
def CdP (B:Nat) (a:Option Addr) (n h:Nat) (zs:List Int) (hi:Nat) (w:World) (e:Ending) (w':World):Prop :=
 ∃ (k:Int) (na:Option Addr) (nn nc:Nat) (ra:Option Addr) (rn rc:Nat) (ka:Option Addr) (kn kc:Nat) (c:CN),e=.returned (.agg #[.int .i64 k,.slice na nn nc,.slice ra rn rc,.slice ka kn kc])∧RdC w.heap.size w'.heap.size w' 20 (.agg #[.int .i64 k,.slice na nn nc,.slice ra rn rc,.slice ka kn kc]) c∧c.bulk≤100000∧Cur w' B a n h zs hi∧Bt B w.heap.size w w'
theorem l2drawR_any (f:Nat) (hf:f=1∨f=2) {B:Nat} {a:Option Addr} {n h:Nat} {zs:List Int} {hi:Nat} {w:World} (c:Cur w B a n h zs hi) :
    Calls Tryz.prog 76 #[.pointer (some ⟨B,0,none⟩),.int .i64 f] w (CdP B a n h zs hi w):=by
 refine (l2draw_any f (by omega) c).mono ?_;rintro e w2 hD;obtain ⟨y0,y1,y2,y3,cc,L,rfl,hO,_,O,aV,aR,aQ⟩:=hD;obtain ⟨aN,⟨na,nn,nc,aM⟩,⟨ra,rn,rc,aL⟩,⟨ka,kn,kc,aK⟩⟩:=hO.ow.form;subst aN aM aL aK
 have aO:∀ x∈L,w.heap.size≤x.1.block∧x.1.block<w2.heap.size:=by
  intro x hx;rcases hO.us x hx with ⟨q1,q2⟩ | ⟨t,_,_,q,_⟩
  · exact ⟨q1,q2⟩
  simp at q
 have hb:cc.bulk≤100000:=by
  rcases hf with rfl | rfl
  · exact Nat.le_trans O (by decide)
  exact Nat.le_trans O (by decide)
 exact ⟨_,na,nn,nc,ra,rn,rc,ka,kn,kc,cc,rfl,RdC.higher (hO.ow.rd aO) (by omega),hb,aR,aQ⟩
set_option maxRecDepth 100000 in
set_option maxHeartbeats 4000000 in
theorem l3axiomDraw_any {w:World} {B:Nat} {a:Option Addr} {n h:Nat} {zs:List Int} {hi:Nat} (c:Cur w B a n h zs hi) :
    Calls Tryz.prog 61 #[.pointer (some ⟨B,0,none⟩)] w (AdP B a n h zs hi w):=by
 have hB:=c.lt;obtain ⟨W0,aF⟩:∃ W,Hid (W=w.alloc (.cells #[.int .i64 0,.int .i64 0,.slice none 0 0,.slice none 0 0,.slice none 0 0,.int .i64 0,.slice none 0 0,.slice none 0 0,.slice none 0 0,.slice none 0 0,.slice none 0 0,.slice none 0 0,.slice none 0 0] 49)):=⟨_,rfl⟩;have ap:Hid (DgM (.cells zeroA 49) B a n h zs hi w W0):=by unfold Hid;rw [aF.out];exact DgM.start c zeroA 49
 clear c;go_enter Tryz.func61, Tryz.ntmps61;go_wp2_with fail;rw [← aF.out];refine (l3ind_any ap.out.cur).mono ?_;rintro e w1 hP;obtain ⟨b1,k1,c1,z1,rfl,av,aq,aD,aE⟩:=hP;have aJ:Hid (DgM (.cells zeroA 49) B a n h zs hi w w1):=ap.out.next hB aD aE;have aZ:w.heap.size<W0.heap.size:=ap.out.lt;have aT:Hid (Rd (w.heap.size+1) w1.heap.size w1 b1 k1 c1 z1):=av.mono (by omega) (Nat.le_refl _);have ah:Hid (z1.length≤1):=aq;clear av aq aD aE;go_wp2_with fail;refine (l1Below_any aJ.out.cur 8 (by omega)).mono ?_;rintro e w2 ⟨m,rfl,⟨b3,b2⟩,aC,ak⟩;have R:Hid (DgM (.cells zeroA 49) B a n h zs hi w w2):=aJ.out.only hB aC ak;have ai:Hid (Rd (w.heap.size+1) w2.heap.size w2 b1 k1 c1 z1):=aT.out.next (by omega) ak.bt;have aY:w.heap.size<w2.heap.size:=R.out.lt;clear aC ak;by_cases e0:m=0
 · subst e0;go_upto_region 4 with fail;refine regA4 (id:=4) (w:=w2) hB (by simp) rfl R.out rfl rfl ⟨b1,k1,c1,z1,rfl,ai.out,ah.out⟩ ?_;intro a' w' hF;obtain ⟨cs,V,hV,rfl,a4,aj,t2,al⟩:=hF;have HV:Hid (DgM (.cells zeroA 49) B a n h zs hi w V):=hV;have N:Hid (AxV (w.heap.size+1) V 3 (.agg cs)):=a4;have HT:Hid (a'.tmps[2]?.getD undef=.pointer (some ⟨w.heap.size,0,none⟩)):=t2;clear hV a4 t2;go_wp2;obtain ⟨hA,hb⟩:=DgM.finA HV.out hB N.out (by omega);refine bodyPost_ret (v:=.agg cs) (results_cell_row rfl _ _ w.heap.size 49 cs (0,0) _ (by simpa using HT.out) hb Tryz.underlying49 rfl (by rw [aj];exact infoAx13)) al ?_;exact hA
 have b7:(m == 0)=false:=by simpa using e0
 by_cases e1:m=1
 · subst e1;go_wp2_with fail;refine (l2drawR_any 2 (by omega) R.out.cur).mono ?_;rintro e w3 hP;obtain ⟨k4,G,E,F,D,y,A,J,H,I,cc,rfl,hr,O,hc,hb⟩:=hP;have HV:Hid (DgM (.cells zeroA 49) B a n h zs hi w w3):=R.out.next hB hc hb
   have N:Hid (AxV (w.heap.size+1) w3 4 (.agg #[.int .i64 4,.int .i64 k4,.slice G E F,.slice D y A,.slice J H I,.int .i64 0,.slice none 0 0,.slice none 0 0,.slice none 0 0,.slice none 0 0,.slice none 0 0,.slice b1 k1 c1,.slice none 0 0])) :=
    ⟨_,_,_,_,_,_,_,_,none,0,0,none,0,0,b1,k1,c1,none,0,0,⟨4,cc,CN.zero,[],[],z1,[]⟩,rfl,rfl,⟨RdC.mono (by omega) (Nat.le_refl _) hr,rdZero _ _ 19 _,rdNil _ _ _,rdNil _ _ _,ai.out.next (by omega) hb,rdNil _ _ _⟩,O,zero_small,Nat.zero_le _,Nat.zero_le _,ah.out,Nat.zero_le _⟩
   clear hr O hc hb;go_wp2_with (first | (refine wpList_store_row rfl 49 (.tmp 2) (.tmp 29) rfl w.heap.size #[.int .i64 4,.int .i64 k4,.slice G E F,.slice D y A,.slice J H I,.int .i64 0,.slice none 0 0,.slice none 0 0,.slice none 0 0,.slice none 0 0,.slice none 0 0,.slice b1 k1 c1,.slice none 0 0] rfl rfl 49 zeroA HV.out.box infoAx13 rfl (by simp [Value.oneCell']) ?_) | fail);obtain ⟨hA,hb⟩:=DgM.finA HV.out hB N.out (by omega);refine bodyPost_ret (v:=.agg #[.int .i64 4,.int .i64 k4,.slice G E F,.slice D y A,.slice J H I,.int .i64 0,.slice none 0 0,.slice none 0 0,.slice none 0 0,.slice none 0 0,.slice none 0 0,.slice b1 k1 c1,.slice none 0 0]) (results_cell_row rfl _ _ w.heap.size 49 #[.int .i64 4,.int .i64 k4,.slice G E F,.slice D y A,.slice J H I,.int .i64 0,.slice none 0 0,.slice none 0 0,.slice none 0 0,.slice none 0 0,.slice none 0 0,.slice b1 k1 c1,.slice none 0 0] (0,0) _ rfl hb Tryz.underlying49 rfl infoAx13) rfl ?_;exact hA
 have b6:(m == 1)=false:=by simpa using e1
 by_cases e2:m=2
 · subst e2;go_wp2_with fail;refine (l2drawR_any 2 (by omega) R.out.cur).mono ?_;rintro e w3 hP;obtain ⟨k4,G,E,F,D,y,A,J,H,I,cc,rfl,hr,O,hc,hb⟩:=hP;have HV:Hid (DgM (.cells zeroA 49) B a n h zs hi w w3):=R.out.next hB hc hb
   have N:Hid (AxV (w.heap.size+1) w3 4 (.agg #[.int .i64 4,.int .i64 k4,.slice G E F,.slice D y A,.slice J H I,.int .i64 0,.slice none 0 0,.slice none 0 0,.slice none 0 0,.slice none 0 0,.slice none 0 0,.slice b1 k1 c1,.slice none 0 0])) :=
    ⟨_,_,_,_,_,_,_,_,none,0,0,none,0,0,b1,k1,c1,none,0,0,⟨4,cc,CN.zero,[],[],z1,[]⟩,rfl,rfl,⟨RdC.mono (by omega) (Nat.le_refl _) hr,rdZero _ _ 19 _,rdNil _ _ _,rdNil _ _ _,ai.out.next (by omega) hb,rdNil _ _ _⟩,O,zero_small,Nat.zero_le _,Nat.zero_le _,ah.out,Nat.zero_le _⟩
   clear hr O hc hb;go_wp2_with (first | (refine wpList_store_row rfl 49 (.tmp 2) (.tmp 29) rfl w.heap.size #[.int .i64 4,.int .i64 k4,.slice G E F,.slice D y A,.slice J H I,.int .i64 0,.slice none 0 0,.slice none 0 0,.slice none 0 0,.slice none 0 0,.slice none 0 0,.slice b1 k1 c1,.slice none 0 0] rfl rfl 49 zeroA HV.out.box infoAx13 rfl (by simp [Value.oneCell']) ?_) | fail);obtain ⟨hA,hb⟩:=DgM.finA HV.out hB N.out (by omega);refine bodyPost_ret (v:=.agg #[.int .i64 4,.int .i64 k4,.slice G E F,.slice D y A,.slice J H I,.int .i64 0,.slice none 0 0,.slice none 0 0,.slice none 0 0,.slice none 0 0,.slice none 0 0,.slice b1 k1 c1,.slice none 0 0]) (results_cell_row rfl _ _ w.heap.size 49 #[.int .i64 4,.int .i64 k4,.slice G E F,.slice D y A,.slice J H I,.int .i64 0,.slice none 0 0,.slice none 0 0,.slice none 0 0,.slice none 0 0,.slice none 0 0,.slice b1 k1 c1,.slice none 0 0] (0,0) _ rfl hb Tryz.underlying49 rfl infoAx13) rfl ?_;exact hA
 have b5:(m == 2)=false:=by simpa using e2
 by_cases e3:m=3
 · subst e3;go_upto_region 9 with fail;refine regA9 (id:=9) (w:=w2) hB (by simp) rfl R.out rfl rfl ⟨b1,k1,c1,z1,rfl,ai.out,ah.out⟩ ?_;intro a' w' hF;obtain ⟨cs,V,hV,rfl,a4,aj,t2,al⟩:=hF;have HV:Hid (DgM (.cells zeroA 49) B a n h zs hi w V):=hV;have N:Hid (AxV (w.heap.size+1) V 5 (.agg cs)):=a4;have HT:Hid (a'.tmps[2]?.getD undef=.pointer (some ⟨w.heap.size,0,none⟩)):=t2;clear hV a4 t2;go_wp2;obtain ⟨hA,hb⟩:=DgM.finA HV.out hB N.out (by omega);refine bodyPost_ret (v:=.agg cs) (results_cell_row rfl _ _ w.heap.size 49 cs (0,0) _ (by simpa using HT.out) hb Tryz.underlying49 rfl (by rw [aj];exact infoAx13)) al ?_;exact hA
 have b4:(m == 3)=false:=by simpa using e3
 have aH:Hid (DgM (.cells zeroA 49) B a n h zs hi w (w2.alloc (.cells #[.int .i64 0,.int .i64 0,.int .i64 0,.int .i64 1,.int .i64 2] 3))):=R.out.below hB ((Below.refl _ _).alloc (Nat.le_refl _) _)
 have ax:∀ i,i<5→∃ z,(w2.alloc (.cells #[.int .i64 0,.int .i64 0,.int .i64 0,.int .i64 1,.int .i64 2] 3)).cell? ⟨w2.heap.size,i,none⟩=some (.int .i64 z)∧(0≤z∧z≤2):=by
  have hb:(w2.alloc (.cells #[.int .i64 0,.int .i64 0,.int .i64 0,.int .i64 1,.int .i64 2] 3)).heap[w2.heap.size]?=some (.cells #[.int .i64 0,.int .i64 0,.int .i64 0,.int .i64 1,.int .i64 2] 3):=allocAtA rfl;intro i hi
  match i,hi with
  | 0,_ | 1,_ | 2,_=>exact ⟨0,by unfold World.cell?;simp only [];rw [hb];rfl,by omega⟩
  | 3,_=>exact ⟨1,by unfold World.cell?;simp only [];rw [hb];rfl,by omega⟩
  | 4,_=>exact ⟨2,by unfold World.cell?;simp only [];rw [hb];rfl,by omega⟩
 have aU:Hid _:=ax;clear ax;go_wp2_with fail;refine (pickN_any aH.out.cur (g:=w2.heap.size) (m:=5) (by omega) (by omega) (fun z=>0≤z∧z≤2) aU.out).mono ?_;rintro e w3 ⟨x,rfl,hx,aB,ay⟩;have ao:Hid (DgM (.cells zeroA 49) B a n h zs hi w w3):=aH.out.only hB aB ay;have aS:Hid (0≤x∧x≤2):=hx;have aX:w.heap.size<w3.heap.size:=ao.out.lt;clear hx aB ay;go_wp2_with fail;refine (l2drawR_any 1 (by omega) ao.out.cur).mono ?_;rintro e w4 hP;obtain ⟨k5,a0,Y,Z,X,T,U,a3,a1,a2,c5,rfl,au,a6,aA,am⟩:=hP;have aI:Hid (DgM (.cells zeroA 49) B a n h zs hi w w4):=ao.out.next hB aA am;have aG:Hid (RdC w3.heap.size w4.heap.size w4 20 (.agg #[.int .i64 k5,.slice a0 Y Z,.slice X T U,.slice a3 a1 a2]) c5∧c5.bulk≤100000):=⟨au,a6⟩;have aW:=am.size;clear au a6 aA am;go_wp2_with fail;refine (l2drawR_any 2 (by omega) aI.out.cur).mono ?_;rintro e w5 hP;obtain ⟨k6,ac,aa,ab,a9,a7,a8,af,ad,ae,c6,rfl,ar,a5,az,ag⟩:=hP;have HV:Hid (DgM (.cells zeroA 49) B a n h zs hi w w5):=aI.out.next hB az ag
 have N:Hid (AxV (w.heap.size+1) w5 x (.agg #[.int .i64 x,.int .i64 k5,.slice a0 Y Z,.slice X T U,.slice a3 a1 a2,.int .i64 k6,.slice ac aa ab,.slice a9 a7 a8,.slice af ad ae,.slice none 0 0,.slice none 0 0,.slice none 0 0,.slice none 0 0])):=by
  have aP:Same w3.heap.size w4.heap.size w4 w5:=fun q h1 h2=>ag.block q h2 (by omega)
  exact ⟨_,_,_,_,_,_,_,_,none,0,0,none,0,0,none,0,0,none,0,0,⟨x,c5,c6,[],[],[],[]⟩,rfl,rfl,⟨RdC.mono (by omega) ag.size (RdC.same aP aG.out.1),RdC.mono (by omega) (Nat.le_refl _) ar,rdNil _ _ _,rdNil _ _ _,rdNil _ _ _,rdNil _ _ _⟩,aG.out.2,a5,Nat.zero_le _,Nat.zero_le _,Nat.zero_le _,Nat.zero_le _⟩
 clear ar a5 az ag;go_wp2_with (first | (refine wpList_store_row rfl 49 (.tmp 2) (.tmp 49) rfl w.heap.size #[.int .i64 x,.int .i64 k5,.slice a0 Y Z,.slice X T U,.slice a3 a1 a2,.int .i64 k6,.slice ac aa ab,.slice a9 a7 a8,.slice af ad ae,.slice none 0 0,.slice none 0 0,.slice none 0 0,.slice none 0 0] rfl rfl 49 zeroA HV.out.box infoAx13 rfl (by simp [Value.oneCell']) ?_) | fail);obtain ⟨hA,hb⟩:=DgM.finA HV.out hB N.out (by have:=aS.out;omega);refine bodyPost_ret (v:=.agg #[.int .i64 x,.int .i64 k5,.slice a0 Y Z,.slice X T U,.slice a3 a1 a2,.int .i64 k6,.slice ac aa ab,.slice a9 a7 a8,.slice af ad ae,.slice none 0 0,.slice none 0 0,.slice none 0 0,.slice none 0 0]) (results_cell_row rfl _ _ w.heap.size 49 #[.int .i64 x,.int .i64 k5,.slice a0 Y Z,.slice X T U,.slice a3 a1 a2,.int .i64 k6,.slice ac aa ab,.slice a9 a7 a8,.slice af ad ae,.slice none 0 0,.slice none 0 0,.slice none 0 0,.slice none 0 0] (0,0) _ rfl hb Tryz.underlying49 rfl infoAx13) rfl ?_;exact hA
end

end Go.Proofs.YtnmljalcndfjmaaGreat
