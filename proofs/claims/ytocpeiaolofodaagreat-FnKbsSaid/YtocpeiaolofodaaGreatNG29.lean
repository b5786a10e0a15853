/- Several texts in one: DrawAx9, Spoil. -/
import Derived.Test.YtocpeiaolofodaaGreatNG28
import Derived.Test.YtocpeiaolofodaaGreatBent1
import Derived.Test.YtocpeiaolofodaaGreatNG9
import Derived.Test.YtocpeiaolofodaaGreatNG10
import Derived.Test.YtocpeiaolofodaaGreatNG21
import Derived.Test.YtocpeiaolofodaaGreatNG1
namespace Go.Proofs.YtocpeiaolofodaaGreat

section
open Go.RowKit
abbrev opA9_0 : Oper := { dst := some 32, op := Op.buildSlice 70 2 #[(0, Operand.const (Value.string { data := #[114] })), (1, Operand.const (Value.string { data := #[115] }))], type := 70, pos := "l03_kb.go:264", after := #[], guard := none }
abbrev opA9_1 : Oper := { dst := some 33, op := Op.move (Operand.tmp 0), type := 43, pos := "l03_kb.go:264", after := #[], guard := none }
abbrev opA9_2 : Oper := { dst := some 34, op := Op.call { callee := Callee.value (Operand.func 37), args := #[Operand.tmp 33, Operand.const (Value.int IntKind.i64 2)], argTypes := #[43, 3] }, type := 3, pos := "l03_kb.go:264", after := #[{ on := 1, ground := Ground.data }], guard := none }
abbrev opA9_3 : Oper := { dst := some 35, op := Op.indexAddr 70 (Operand.tmp 32) (Operand.tmp 34), type := 0, pos := "l03_kb.go:264", after := #[{ on := 0, ground := Ground.data }, { on := 2, ground := Ground.data }], guard := none }
abbrev opA9_4 : Oper := { dst := some 36, op := Op.load 9 (Operand.tmp 35), type := 9, pos := "l03_kb.go:264", after := #[{ on := 3, ground := Ground.data }], guard := none }
abbrev opA9_5 : Oper := { dst := some 37, op := Op.convert 9 22 (Operand.tmp 36), type := 22, pos := "l03_kb.go:264", after := #[{ on := 4, ground := Ground.data }], guard := none }
abbrev opA9_6 : Oper := { dst := some 38, op := Op.move (Operand.tmp 3), type := 22, pos := "l03_kb.go:264", after := #[], guard := none }
abbrev opA9_7 : Oper := { dst := some 39, op := Op.move (Operand.tmp 0), type := 43, pos := "l03_kb.go:264", after := #[], guard := none }
abbrev opA9_8 : Oper := { dst := some 40, op := Op.call { callee := Callee.value (Operand.func 62), args := #[Operand.tmp 39], argTypes := #[43] }, type := 22, pos := "l03_kb.go:264", after := #[{ on := 7, ground := Ground.data }, { on := 2, ground := Ground.chain }], guard := none }
abbrev opA9_9 : Oper := { dst := some 41, op := Op.build 39 #[(0, Operand.const (Value.int IntKind.i64 5)), (3, Operand.tmp 37), (5, Operand.tmp 38), (6, Operand.tmp 40)], type := 39, pos := "l03_kb.go:264", after := #[{ on := 5, ground := Ground.data }, { on := 6, ground := Ground.data }, { on := 8, ground := Ground.data }], guard := none }
abbrev opA9_10 : Oper := { dst := none, op := Op.store 39 (Operand.tmp 2) (Operand.tmp 41), type := 0, pos := "l03_kb.go:264", after := #[{ on := 9, ground := Ground.data }, { on := 8, ground := Ground.chain }, { on := 0, ground := Ground.phase }, { on := 1, ground := Ground.phase }, { on := 2, ground := Ground.phase }, { on := 3, ground := Ground.phase }, { on := 4, ground := Ground.phase }, { on := 5, ground := Ground.phase }, { on := 6, ground := Ground.phase }, { on := 7, ground := Ground.phase }, { on := 8, ground := Ground.phase }, { on := 9, ground := Ground.phase }], guard := none }
def opsA9:Array Oper:=#[opA9_0,opA9_1,opA9_2,opA9_3,opA9_4,opA9_5,opA9_6,opA9_7,opA9_8,opA9_9,opA9_10]
def tag9:Nat→RK
 | 0=>.row
 | 1=>.cur
 | 2=>.idx
 | 3=>.adr
 | 4=>.str
 | 5=>.word
 | 6=>.word
 | 7=>.cur
 | 8=>.word
 | 9=>.axm 5
 | _=>.cur
set_option maxRecDepth 100000 in
set_option maxHeartbeats 4000000 in
theorem stepA9 {B:Nat} {da:Option Addr} {n A:Nat} {zs:List Int} {hi:Nat} {w0:World} (hB:B<w0.heap.size) {Q:Exit→Act→World→Prop} (l:Array Bool) (a:Act) (w:World) (i:Nat) (hI:DI 10 32 tag9 B da n A zs hi w0 (AxF B da n A zs hi w0 5) l a w) (h:i∈Region.ready .any opsA9 l):wpOp Tryz.prog opsA9 Q i (DI 10 32 tag9 B da n A zs hi w0 (AxF B da n A zs hi w0 5) (l.setIfInBounds i true)) a w:=by
 obtain ⟨hn,a2,_⟩:=ready_false h;have H:i<11:=a2;obtain ⟨hM,t0,t2,t3,hf⟩:=hI.mem (hI.open hn H);have a6:=hM.lt;have:i=0∨i=1∨i=2∨i=3∨i=4∨i=5∨i=6∨i=7∨i=8∨i=9∨i=10:=by omega
 rcases this with rfl | rfl | rfl | rfl | rfl | rfl | rfl | rfl | rfl | rfl | rfl
 · refine wpOp_of (o:=opA9_0) rfl rfl ?_;go_simp;have hb:Below w.heap.size w (w.alloc (.cells #[.string { data:=#[114] },.string { data:=#[115] }] 9)):=(Below.refl _ _).alloc (Nat.le_refl _) _;exact hI.step hB (by omega) (by omega) hn (hM.below hB hb) (Bt.of_below hb) ⟨w.heap.size,rfl,by omega,_,_,allocAtA rfl,low_114,low_115⟩
 · refine wpOp_of (o:=opA9_1) rfl rfl ?_;go_simp;exact hI.step hB (by omega) (by omega) hn hM (Bt.refl _ _ _) rfl
 · have d1:=dep_done h (o:=opA9_2) rfl (k:=1) (by decide);have r1:=hf 1 (by omega) d1;have c1:a.tmps[33]?.getD undef=.pointer (some ⟨B,0,none⟩):=r1;refine wpOp_of (o:=opA9_2) rfl rfl ?_;go_simp;refine (l1Below_any hM.cur 2 (by omega)).mono ?_;rintro e w2 ⟨x,rfl,⟨T,a5⟩,hc,ho⟩;exact hI.step hB (by omega) (by omega) hn (hM.only hB hc ho) ho.bt ⟨x.toNat,by omega,by rw [Int.toNat_of_nonneg T]⟩
 · have d0:=dep_done h (o:=opA9_3) rfl (k:=0) (by decide);have r0:=hf 0 (by omega) d0;have d2:=dep_done h (o:=opA9_3) rfl (k:=2) (by decide);have r2:=hf 2 (by omega) d2;obtain ⟨g,hg,hs⟩:=r0;obtain ⟨j,hj,hv⟩:=r2;have c0:a.tmps[32]?.getD undef=.slice (some ⟨g,0,none⟩) 2 2:=hg;have c1:a.tmps[34]?.getD undef=.int .i64 j:=hv;have a7:(j:Int)<2:=by omega
   refine wpOp_of (o:=opA9_3) rfl rfl ?_;go_simp;exact hI.step hB (by omega) (by omega) hn hM (Bt.refl _ _ _) ⟨g,j,rfl,hj,hs⟩
 · have d3:=dep_done h (o:=opA9_4) rfl (k:=3) (by decide);have r3:=hf 3 (by omega) d3;obtain ⟨g,j,hg,hj,hs⟩:=r3;have c0:a.tmps[35]?.getD undef=.pointer (some ⟨g,j,none⟩):=hg;obtain ⟨_,s1,s2,hh,l1,l2⟩:=hs
   obtain ⟨s,hc,hl⟩:∃ s:ByteArray,w.cell? ⟨g,j,none⟩=some (.string s)∧LowS s:=by
    match j,hj with
    | 0,_=>exact ⟨s1,by simp [World.cell?,hh],l1⟩
    | 1,_=>exact ⟨s2,by simp [World.cell?,hh],l2⟩
   refine wpOp_of (o:=opA9_4) rfl rfl ?_;go_simp;exact hI.step hB (by omega) (by omega) hn hM (Bt.refl _ _ _) ⟨s,rfl,hl⟩
 · have d4:=dep_done h (o:=opA9_5) rfl (k:=4) (by decide);have r4:=hf 4 (by omega) d4;obtain ⟨s,hs,hl⟩:=r4;have c0:a.tmps[36]?.getD undef=.string s:=hs;have a8:(convert 9 22 (.string s)).run Tryz.prog w=.ok (.slice (some ⟨w.heap.size,0,none⟩) s.size (grownCap w s.size 0 5)) (Lib.bytesWorld w 5 s):=Lib.run_convert_string_bytes w 9 22 5 s Tryz.underlying9 Tryz.underlying22 Tryz.underlying5;refine wpOp_of (o:=opA9_5) rfl rfl ?_;go_simp;have hb:=bytes_below w 5 s;exact hI.step hB (by omega) (by omega) hn (hM.below hB hb) (Bt.of_below hb) ⟨_,_,_,_,rfl,(bw_rd w s (by have:=hl.1;omega)).mono (by omega) (Nat.le_refl _),⟨by rw [numsOf_len];exact hl.1,hl.2⟩⟩
 · refine wpOp_of (o:=opA9_6) rfl rfl ?_;go_simp;exact hI.step hB (by omega) (by omega) hn hM (Bt.refl _ _ _) t3
 · refine wpOp_of (o:=opA9_7) rfl rfl ?_;go_simp;exact hI.step hB (by omega) (by omega) hn hM (Bt.refl _ _ _) rfl
 · have d7:=dep_done h (o:=opA9_8) rfl (k:=7) (by decide);have r7:=hf 7 (by omega) d7;have c7:a.tmps[39]?.getD undef=.pointer (some ⟨B,0,none⟩):=r7;refine wpOp_of (o:=opA9_8) rfl rfl ?_;go_simp;refine (l3ind_any hM.cur).mono ?_;rintro e w2 hP;obtain ⟨b,k,c,z,rfl,hr,hz,hc,hb⟩:=hP;exact hI.step hB (by omega) (by omega) hn (hM.next hB hc hb) hb ⟨b,k,c,z,rfl,hr.mono (by omega) (Nat.le_refl _),hz⟩
 · have d5:=dep_done h (o:=opA9_9) rfl (k:=5) (by decide);have r5:=hf 5 (by omega) d5;have d6:=dep_done h (o:=opA9_9) rfl (k:=6) (by decide);have r6:=hf 6 (by omega) d6;have d8:=dep_done h (o:=opA9_9) rfl (k:=8) (by decide);have r8:=hf 8 (by omega) d8;obtain ⟨b5,k5,c5,z5,X,a1,N⟩:=r5;have e5:a.tmps[37]?.getD undef=.slice b5 k5 c5:=X;obtain ⟨b6,k6,c6,z6,V,a0,J⟩:=r6;have e6:a.tmps[38]?.getD undef=.slice b6 k6 c6:=V;obtain ⟨b8,k8,c8,z8,U,Z,I⟩:=r8;have e8:a.tmps[40]?.getD undef=.slice b8 k8 c8:=U;refine wpOp_of (o:=opA9_9) rfl rfl ?_;go_simp;exact hI.step hB (by omega) (by omega) hn hM (Bt.refl _ _ _) (AxV.words 5 a1 (rdNil _ _ _) a0 Z N.1 (Nat.zero_le _) J.1 I.1 (axOk_rel N.2 J.2 I.2))
 have E:∀ k,k<10→Dn l k:=by
  intro k hk;have:k=0∨k=1∨k=2∨k=3∨k=4∨k=5∨k=6∨k=7∨k=8∨k=9:=by omega
  rcases this with rfl | rfl | rfl | rfl | rfl | rfl | rfl | rfl | rfl | rfl <;> exact dep_done h (o:=opA9_10) rfl (by decide)
 have r9:=hf 9 (by omega) (E 9 (by omega));obtain ⟨cs,O,F,G⟩:=AxV.one r9;have a4:AxV (w0.heap.size+1) w 5 (.agg cs):=by rw [← O];exact r9
 refine wpOp_of (o:=opA9_10) rfl rfl ?_;refine wp_store_row 39 (.tmp 2) (.tmp 41) rfl w0.heap.size cs (by simpa [Act.eval] using t2) (by simpa [Act.eval] using O) 39 zeroA hM.box (by rw [F];exact infoAx13) (by rw [F];rfl) G ?_;exact hI.stop E ⟨cs,w,hM,rfl,a4,F,t2,hI.df⟩
theorem ordA9:∀ (i:Nat) (o:Oper),opsA9[i]?=some o→∀ e∈o.after.toList,e.on<i:=by
 intro i o ho e he;have hi:i<11:=(Array.getElem?_eq_some_iff.1 ho).1;have:i=0∨i=1∨i=2∨i=3∨i=4∨i=5∨i=6∨i=7∨i=8∨i=9∨i=10:=by omega
 rcases this with rfl | rfl | rfl | rfl | rfl | rfl | rfl | rfl | rfl | rfl | rfl <;> (obtain rfl:_=o:=Option.some.inj ho;revert e;decide)
theorem regA9 {B:Nat} {da:Option Addr} {n A:Nat} {zs:List Int} {hi:Nat} {w0:World} (hB:B<w0.heap.size) {Q:Exit→Act→World→Prop} {id:Nat} {a:Act} {w:World} (Y:42≤a.tmps.size) (a3:a.defers=[]) (hM:DgM (.cells zeroA 39) B da n A zs hi w0 w) (t0:a.tmps[0]?.getD undef=.pointer (some ⟨B,0,none⟩)) (t2:a.tmps[2]?.getD undef=.pointer (some ⟨w0.heap.size,0,none⟩)) (t3:RV (w0.heap.size+1) B .word w (a.tmps[3]?.getD undef))
    (hQ:∀ a w,AxF B da n A zs hi w0 5 a w→Q .normal a w):(Code.region id opsA9 true).wp Tryz.prog Q a w:=by
 refine wp_region_any (by kernel_rfl) ?_
 have D:∀ k,¬ Dn (Array.replicate 11 false) k:=by
  intro k hk;unfold Dn at hk;rw [Array.getD_eq_getD_getElem?,Array.getElem?_replicate] at hk
  split at hk <;> simp at hk
 refine wpAny_inv (DI 10 32 tag9 B da n A zs hi w0 (AxF B da n A zs hi w0 5) ) (fun l a w i hI hi=>stepA9 hB l a w i hI hi) (fun l a w hI hr=>hQ a w (hI.fin (all_done (by rw [hI.sz];rfl) hr ordA9 10 (by decide)))) 11 _ _ _ (by decide) ?_;exact ⟨by simp;rfl,Y,a3,fun q=>absurd q (D _),fun q=>absurd q (D _),fun _=>⟨hM.drew,t0,t2,RV.next (w':=w.drew) t3 (by omega) (Bt.refl _ _ _).drew,fun k _ q=>absurd q (D _)⟩⟩
end

section
open Go.RowKit
theorem step_appO {w:World} {U:Array Oper} {o:Oper} {a:Act} {K:Act→World→Prop} {Q:Exit→Act→World→Prop} {E:Prop} (ad:o.guard=none) (s x:Operand)
    (ho:o.op=.call { callee:=.builtin .append,args:=#[s,x],argTypes:=#[22, 22] }) (base:Nat) (v:Value) (xs:List Int) (hs:a.eval s=v) (hO:OwnB base w v xs) (hv:v≠.slice none 0 0) {lo hi:Nat} (b off n D:Nat) (ys:List Int)
    (hx:a.eval x=.slice (some ⟨b,off,none⟩) n D) (hR:Rd lo hi w (some ⟨b,off,none⟩) n D ys) (aq:xs.length+n≤1073741824) (z:base≤w.heap.size)
    (h:∀ v' w',OwnB base w' v' (xs++ys)→Keep5 base w w'→v'≠.slice none 0 0→K (a.put o.dst v') w') :
    if Region.wanted o (yielded U a.tmps)=true then Oper.wp Tryz.prog o a w K Q else E:=by
 obtain ⟨i0,ac,ab,aa,a9⟩:=info_parts Tryz.info5;have hl:=hR.len;subst hl;have hw:Region.wanted o (yielded U a.tmps)=true:=by simp [Region.wanted,ad]
 rw [if_pos hw];obtain ⟨v',w',hr,h2,h3,h4⟩:=run_append_own (P:=Tryz.prog) w base 22 o.type 5 i0 (.int .u8 0) 1 1 Tryz.underlying22 ac ab aa a9 rfl (by decide) v xs.length (xs.map (Value.int .u8)) hO ⟨b,off,none⟩ ys.length D (ys.map (Value.int .u8)) (by simp) (rd_news hR) (oneCB _) (by unfold maxLen;omega) (by omega) z;unfold Oper.wp execOp;simp only [ho,resolve,invoke,builtin,Sem.run_bind,Sem.run_pure,Result.andThen_ok,List.map_toArray,List.map_cons,List.map_nil,hs,hx,hr];exact h v' w' (ownB_app hO z h2 h3).1 (ownB_app hO z h2 h3).2 (fun e=>hv (h4.1 e).1)
theorem step_strO {w:World} {U:Array Oper} {o:Oper} {a:Act} {K:Act→World→Prop} {Q:Exit→Act→World→Prop} {E:Prop} (ad:o.guard=none) (sl x:Operand)
    (ho:o.op=.call { callee:=.builtin .append,args:=#[sl,x],argTypes:=#[22,9] }) (base:Nat) (v:Value) (xs:List Int) (hs:a.eval sl=v) (hO:OwnB base w v xs) (hv:v≠.slice none 0 0) (s:ByteArray)
    (hx:a.eval x=.string s) (aq:xs.length+s.size≤1073741824) (z:base≤w.heap.size)
    (h:∀ v' w',OwnB base w' v' (xs++numsOf s)→Keep5 base w w'→v'≠.slice none 0 0→K (a.put o.dst v') w') :
    if Region.wanted o (yielded U a.tmps)=true then Oper.wp Tryz.prog o a w K Q else E:=by
 obtain ⟨i0,ac,ab,aa,a9⟩:=info_parts Tryz.info5;have hw:Region.wanted o (yielded U a.tmps)=true:=by simp [Region.wanted,ad]
 rw [if_pos hw];obtain ⟨v',w',hr,h2,h3,h4⟩:=Lib.run_append_own_string (P:=Tryz.prog) w base 22 9 o.type 5 i0 Tryz.underlying22 Tryz.underlying9 ac ab aa a9 v xs.length (xs.map (Value.int .u8)) hO s (by unfold maxLen;omega) (by omega) z;unfold Oper.wp execOp;simp only [ho,resolve,invoke,builtin,Sem.run_bind,Sem.run_pure,Result.andThen_ok,List.map_toArray,List.map_cons,List.map_nil,hs,hx,hr];exact h v' w' (ownB_strN hO z h2 h3).1 (ownB_strN hO z h2 h3).2 (fun e=>hv (h4.1 e).1)
theorem Rd.only {lo hi B:Nat} {w w':World} {a:Option Addr} {n D:Nat} {zs:List Int} (h:Rd lo hi w a n D zs) (o:Only B w w') (hB:B<lo) (hh:hi≤w.heap.size):Rd lo hi w' a n D zs :=
 h.same (fun b h1 h2=>o.other b (by omega) (by omega))
def SpP (B:Nat) (m:Nat) (w:World) (e:Ending) (w':World):Prop:=∃ v ys,e=.returned v∧v≠.slice none 0 0∧OwnB w.heap.size w' v ys∧(∀ x∈ys,0≤x∧x≤255)∧ys.length≤m+10∧Only B w w'
theorem Rd.rest {lo hi:Nat} {w:World} {b off n D:Nat} {zs:List Int} (h:Rd lo hi w (some ⟨b,off,none⟩) n D zs) {i o':Nat} (bk:i≤n) (ho:(D=i∧o'=off)∨(D≠i∧o'=off+i)):Rd lo hi w (some ⟨b,o',none⟩) (n - i) (D - i) ((zs.drop i).take (n - i)):=by
 have hl:=h.len;have hf:=h.fits;rcases ho with ⟨h1,rfl⟩ | ⟨h1,rfl⟩
 · have e:n - i=0:=by omega
   rw [e];exact ⟨by simp,⟨by omega,by omega⟩,by simp,.inl rfl⟩
 exact h.cut (by omega)
theorem own_made_ne (g:Nat):Value.slice (some ⟨g,0,none⟩) 0 0≠.slice none 0 0:=by simp
set_option maxRecDepth 100000 in
set_option maxHeartbeats 4000000 in
theorem l2spoil_any {w:World} {B:Nat} {a:Option Addr} {n D:Nat} {zs:List Int} {hi:Nat} (c:Cur w B a n D zs hi) {lo bb off m cp:Nat} {xs:List Int} (hR:Rd lo w.heap.size w (some ⟨bb,off,none⟩) m cp xs) (aL:B<lo) (bj:1≤m) (bi:m≤100000) :
    Calls Tryz.prog 28 #[.pointer (some ⟨B,0,none⟩),.slice (some ⟨bb,off,none⟩) m cp] w (SpP B m w):=by
 have b2:Hid (Cur w B a n D zs hi):=c;have aV:Hid (Rd lo w.heap.size w (some ⟨bb,off,none⟩) m cp xs):=hR;have hB:=c.lt;have b9:=hR.fits;have bg:(0:Int)<(m:Int):=by omega
 have bh:(m:Int)≤(cp:Int):=by omega
 have a8:Hid (∀ i k,∀ x∈(xs.drop i).take k,0≤x∧x≤255):=by
  intro i k x hx;have aG:x∈xs:=List.mem_of_mem_drop (List.mem_of_mem_take hx);obtain ⟨j,hj,rfl⟩:=List.getElem_of_mem aG;have:=hR.byte j;simpa [List.getD,hj] using this
 have a2:Hid (xs.length=m):=hR.len;clear c hR;go_enter Tryz.func28, Tryz.ntmps28;go_wp2_with fail;refine (l1Once_any b2.out 3 (by omega)).mono ?_;rintro e w1 ⟨y,rfl,az,a4⟩;have aD:Hid (Cur w1 B a n D zs hi):=az;have aB:Hid (Rd lo w.heap.size w1 (some ⟨bb,off,none⟩) m cp xs):=aV.out.only a4 aL (Nat.le_refl _);have aC:Hid (Only B w w1):=a4;have be:=a4.below.size;clear az a4;cases y
 · go_wp2_with fail;refine (l1Below_all aD.out ((m:Int)+1) (by omega)).mono ?_;rintro e w2 ⟨x,rfl,⟨aF,aE⟩,ay,a3⟩;obtain ⟨j,hj⟩:∃ j:Nat,x=(j:Int):=⟨x.toNat,by omega⟩;subst hj;have aU:Hid (Rd lo w.heap.size w2 (some ⟨bb,off,none⟩) m cp xs):=aB.out.same (fun b h1 h2=>a3.other b (by omega) (by omega));have aY:Hid (Only B w w2):=aC.out.trans a3;have bd:=a3.below.size;have aM:(j:Int)≤(m:Int):=by omega
   have aN:(j:Int)≤(cp:Int):=by omega
   obtain ⟨W3,a7⟩:∃ W,Hid (W=w2.alloc (.cells #[.string { data:=#[32] },.string { data:=#[40] },.string { data:=#[41] },.string { data:=#[65] },.string { data:=#[114] },.string { data:=#[78,111,116] },.string { data:=#[63] },.string { data:=#[32,84,111,112,32] },.string { data:=#[83,117,98] },.string { data:=#[10] }] 9)):=⟨_,rfl⟩;have a6:Below w2.heap.size w2 W3:=by rw [a7.out];exact (Below.refl _ _).alloc (Nat.le_refl _) _
   have aK:w2.heap.size<W3.heap.size:=by rw [a7.out];simp
   have aQ:Hid (∀ i:Nat,i<10→∃ s:ByteArray,W3.cell? ⟨w2.heap.size,i,none⟩=some (.string s)∧s.size≤5):=by
    intro i hi;rw [a7.out]
    match i,hi with
    | 0,_ | 1,_ | 2,_ | 3,_ | 4,_ | 5,_ | 6,_ | 7,_ | 8,_ | 9,_=>exact ⟨_,by simp;rfl,by decide⟩
   have aZ:Hid (Cur W3 B a n D zs hi):=ay.of (a6.mono (by omega));have aT:Hid (Rd lo w.heap.size W3 (some ⟨bb,off,none⟩) m cp xs):=aU.out.below a6 (by omega);have aX:Hid (Only B w W3):=aY.out.step hB (a6.mono (by omega));clear a6 ay a3;go_wp2_with fail;rw [← a7.out];refine (l1Below_any aZ.out 10 (by omega)).mono ?_;rintro e w4 ⟨x,rfl,⟨b4,b3⟩,ae,F⟩;obtain ⟨q,hq⟩:∃ q:Nat,x=(q:Int):=⟨x.toNat,by omega⟩;subst hq;have ap:q<10:=by omega
   have bf:(q:Int)<10:=by omega
   obtain ⟨s,av,ba⟩:=aQ.out q ap;have ao:w4.cell? ⟨w2.heap.size,q,none⟩=some (.string s):=(World.cell?_of_block (w:=W3) (F.other w2.heap.size aK (by omega))).trans av;have ai:Hid (Rd lo w.heap.size w4 (some ⟨bb,off,none⟩) m cp xs):=aT.out.same (fun b h1 h2=>F.other b (by omega) (by omega));have am:Hid (Only B w w4):=aX.out.trans F;have aJ:=F.below.size;clear ae F av;go_upto_region 6 with fail
   obtain ⟨o',Y,aO⟩:∃ o',((cp=j∧o'=off)∨(cp≠j∧o'=off+j))∧(if cp=j then some (⟨bb,off,none⟩:Addr) else some ⟨bb,off+j,none⟩)=some ⟨bb,o',none⟩:=by
    by_cases hcj:cp=j
    · exact ⟨off,.inl ⟨hcj,rfl⟩,by simp [hcj]⟩
    exact ⟨off+j,.inr ⟨hcj,rfl⟩,by simp [hcj]⟩
   have an:Hid ((cp=j∧o'=off)∨(cp≠j∧o'=off+j)):=Y;clear Y;obtain ⟨Wa,J⟩:∃ W,Hid (W=(w4.alloc (.cells #[] 5)).drew):=⟨_,rfl⟩;have H:Below w.heap.size w4 Wa:=by rw [J.out];exact ((Below.refl w.heap.size w4).alloc (by omega) _).drew
   have aH:w4.heap.size≤Wa.heap.size:=H.size;have N:Hid (OwnB w.heap.size Wa (.slice (some ⟨w4.heap.size,0,none⟩) 0 0) []):=by unfold Hid;rw [J.out];exact ownB_made w4 (by omega)
   have a1:Hid (Rd lo w.heap.size Wa (some ⟨bb,off,none⟩) m cp xs):=ai.out.below H (Nat.le_refl _);have aj:Hid (Only B w Wa):=am.out.step hB H;clear H ao
   go_region_law
    (first
    | (refine step_appO (w:=w6) rfl (.tmp 45) (.tmp 48) rfl w.heap.size v6 ((xs.drop 0).take j++numsOf s) (by first | rfl | (simp [Act.eval];done) | simp [Act.eval,Act.put]) aW.out aR.out bb o' (m - j) (cp - j) ((xs.drop j).take (m - j)) (by first | rfl | (simp [Act.eval];done) | simp [Act.eval,Act.put]) (aS.out.rest (i:=j) (by omega) an.out) (by simp [numsOf_len];omega) (by omega) ?_;intro v7 w7 a0 Z V;have ak:Hid (OwnB w.heap.size w7 v7 ((xs.drop 0).take j++numsOf s++(xs.drop j).take (m - j))):=a0;have O:Hid (Only B w w7):=ar.out.step hB Z.1;have af:Hid (v7≠.slice none 0 0):=V;clear a0 Z V)
    | (refine step_strO (w:=w5) rfl (.tmp 43) (.tmp 44) rfl w.heap.size v5 ((xs.drop 0).take j) (by first | rfl | (simp [Act.eval];done) | simp [Act.eval,Act.put]) al.out ag.out s (by first | rfl | (simp [Act.eval];done) | simp [Act.eval,Act.put]) (by simp;omega) (by omega) ?_;intro v6 w6 aA a5 au;have aW:Hid (OwnB w.heap.size w6 v6 ((xs.drop 0).take j++numsOf s)):=aA;have aS:Hid (Rd lo w.heap.size w6 (some ⟨bb,off,none⟩) m cp xs):=ah.out.below a5.1 (Nat.le_refl _);have ar:Hid (Only B w w6):=T.out.step hB a5.1;have bc:=a5.1.size;have aR:Hid (v6≠.slice none 0 0):=au;clear aA a5 au)
    | (try rw [← J.out];refine step_appO (w:=Wa) rfl (.tmp 39) (.tmp 42) rfl w.heap.size (.slice (some ⟨w4.heap.size,0,none⟩) 0 0) [] (by first | rfl | (simp [Act.eval];done) | simp [Act.eval,Act.put]) N.out (own_made_ne _) bb (off+0) j cp ((xs.drop 0).take j) (by first | rfl | (simp [Act.eval];done) | simp [Act.eval,Act.put]) (a1.out.cut (i:=0) (k:=j) (by omega)) (by simp;omega) (by omega) ?_;intro v5 w5 I G X;rw [List.nil_append] at I;have al:Hid (OwnB w.heap.size w5 v5 ((xs.drop 0).take j)):=I;have ah:Hid (Rd lo w.heap.size w5 (some ⟨bb,off,none⟩) m cp xs):=a1.out.below G.1 (Nat.le_refl _);have T:Hid (Only B w w5):=aj.out.step hB G.1;have aI:=G.1.size;have ag:Hid (v5≠.slice none 0 0):=X;clear I G X))
   all_goals
    go_wp2;go_ret;refine ⟨v7,_,rfl,af.out,ak.out,fun x hx=>?_,?_,O.out⟩
    · rcases List.mem_append.1 hx with hx | hx
      · rcases List.mem_append.1 hx with hx | hx
        · exact a8.out _ _ x hx
        exact numsOf_byte s x hx
      exact a8.out _ _ x hx
    have:=a2.out;simp [numsOf_len];omega
 go_wp2_with fail;refine (l1Below_all aD.out m (by omega)).mono ?_;rintro e w4 ⟨x,rfl,⟨aF,aE⟩,ae,F⟩;obtain ⟨j,hj⟩:∃ j:Nat,x=(j:Int):=⟨x.toNat,by omega⟩;subst hj;have ai:Hid (Rd lo w.heap.size w4 (some ⟨bb,off,none⟩) m cp xs):=aB.out.same (fun b h1 h2=>F.other b (by omega) (by omega));have am:Hid (Only B w w4):=aC.out.trans F;have aJ:=F.below.size;have aM:(j:Int)≤(m:Int):=by omega
 have aN:(j:Int)≤(cp:Int):=by omega
 have b7:(j:Int)+1≤(m:Int):=by omega
 have b8:(0:Int)≤(j:Int)+1:=by omega
 clear ae F;go_upto_region 3 with fail
 obtain ⟨o',Y,aO⟩:∃ o',((cp=j+1∧o'=off)∨(cp≠j+1∧o'=off+(j+1)))∧(if cp=j+1 then some (⟨bb,off,none⟩:Addr) else some ⟨bb,off+(j+1),none⟩)=some ⟨bb,o',none⟩:=by
  by_cases hcj:cp=j+1
  · exact ⟨off,.inl ⟨hcj,rfl⟩,by simp [hcj]⟩
  exact ⟨off+(j+1),.inr ⟨hcj,rfl⟩,by simp [hcj]⟩
 have an:Hid ((cp=j+1∧o'=off)∨(cp≠j+1∧o'=off+(j+1))):=Y;have b5:IntKind.i64.wrap ((j:Int)+1)=(j:Int)+1:=wrap64_id (by omega);have b6:((j:Int)+1).toNat=j+1:=by omega
 clear Y;obtain ⟨Wa,J⟩:∃ W,Hid (W=(w4.alloc (.cells #[] 5)).drew):=⟨_,rfl⟩;have H:Below w.heap.size w4 Wa:=by rw [J.out];exact ((Below.refl w.heap.size w4).alloc (by omega) _).drew
 have aH:w4.heap.size≤Wa.heap.size:=H.size;have N:Hid (OwnB w.heap.size Wa (.slice (some ⟨w4.heap.size,0,none⟩) 0 0) []):=by unfold Hid;rw [J.out];exact ownB_made w4 (by omega)
 have a1:Hid (Rd lo w.heap.size Wa (some ⟨bb,off,none⟩) m cp xs):=ai.out.below H (Nat.le_refl _);have aj:Hid (Only B w Wa):=am.out.step hB H;clear H
 go_region_law
  (first
  | (refine step_appO (w:=w5) rfl (.tmp 23) (.tmp 27) rfl w.heap.size v5 ((xs.drop 0).take j) (by first | rfl | (simp [Act.eval];done) | simp [Act.eval,Act.put]) al.out ag.out bb o' (m - (j+1)) (cp - (j+1)) ((xs.drop (j+1)).take (m - (j+1))) (by first | rfl | (simp [Act.eval];done) | simp [Act.eval,Act.put]) (ah.out.rest (i:=j+1) (by omega) an.out) (by simp;omega) (by omega) ?_;intro v7 w7 a0 Z V;have ak:Hid (OwnB w.heap.size w7 v7 ((xs.drop 0).take j++(xs.drop (j+1)).take (m - (j+1)))):=a0;have O:Hid (Only B w w7):=T.out.step hB Z.1;have af:Hid (v7≠.slice none 0 0):=V;clear a0 Z V)
  | (try rw [← J.out];refine step_appO (w:=Wa) rfl (.tmp 19) (.tmp 22) rfl w.heap.size (.slice (some ⟨w4.heap.size,0,none⟩) 0 0) [] (by first | rfl | (simp [Act.eval];done) | simp [Act.eval,Act.put]) N.out (own_made_ne _) bb (off+0) j cp ((xs.drop 0).take j) (by first | rfl | (simp [Act.eval];done) | simp [Act.eval,Act.put]) (a1.out.cut (i:=0) (k:=j) (by omega)) (by simp;omega) (by omega) ?_;intro v5 w5 I G X;rw [List.nil_append] at I;have al:Hid (OwnB w.heap.size w5 v5 ((xs.drop 0).take j)):=I;have ah:Hid (Rd lo w.heap.size w5 (some ⟨bb,off,none⟩) m cp xs):=a1.out.below G.1 (Nat.le_refl _);have T:Hid (Only B w w5):=aj.out.step hB G.1;have aI:=G.1.size;have ag:Hid (v5≠.slice none 0 0):=X;clear I G X))
 all_goals
  go_wp2;go_ret;refine ⟨v7,_,rfl,af.out,ak.out,fun x hx=>?_,?_,O.out⟩
  · rcases List.mem_append.1 hx with hx | hx
    · exact a8.out _ _ x hx
    exact a8.out _ _ x hx
  have:=a2.out;simp;omega
theorem own_some {base:Nat} {w:World} {v:Value} {zs:List Int} (h:OwnB base w v zs) (hv:v≠.slice none 0 0) (aP:∀ x∈zs,0≤x∧x≤255):∃ g c,v=.slice (some ⟨g,0,none⟩) zs.length c∧base≤g∧g<w.heap.size∧Rd base w.heap.size w (some ⟨g,0,none⟩) zs.length c zs:=by
 rcases h.2 with ⟨hn,_⟩ | ⟨g,D,cur,rfl,hg,hh,h1,h2,h3,h4⟩
 · exact absurd hn hv
 have ax:g<w.heap.size:=(Array.getElem?_eq_some_iff.1 hh).1;refine ⟨g,D,rfl,hg,ax,rfl,⟨h1,by unfold maxLen at h2;omega⟩,getD_byte aP,.inr ⟨g,0,rfl,hg,ax,fun i hi=>?_⟩⟩;have:=h.cellAt i (by omega);rw [Nat.zero_add,this,List.getElem?_map];simp [List.getD,hi]
end

end Go.Proofs.YtocpeiaolofodaaGreat
