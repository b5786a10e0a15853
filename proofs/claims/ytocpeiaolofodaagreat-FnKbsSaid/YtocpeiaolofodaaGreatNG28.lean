/- Several texts in one: RegInv2, DrawAx4. -/
import Derived.Test.YtocpeiaolofodaaGreatNG27
import Derived.Test.YtocpeiaolofodaaGreatNG2
import Derived.Test.YtocpeiaolofodaaGreatBent1
import Derived.Laws.Tables
namespace Go.Proofs.YtocpeiaolofodaaGreat

section
open Go.RowKit
def Dn (l:Array Bool) (k:Nat):Prop:=l.getD k false=true
theorem dn_set {l:Array Bool} {i k:Nat}:Dn (l.setIfInBounds i true) k ↔ (k=i∧i<l.size)∨Dn l k:=by
 unfold Dn;rw [Array.getD_eq_getD_getElem?,Array.getD_eq_getD_getElem?,Array.getElem?_setIfInBounds];by_cases h:i=k
 · subst h;by_cases h2:i<l.size
   · simp [h2]
   simp [h2]
 simp only [if_neg h];constructor
 · exact fun q=>.inr q
 rintro (⟨q,_⟩ | q)
 · exact absurd q.symm h
 exact q
theorem not_dn {l:Array Bool} {i:Nat} (h:l[i]?=some false):¬ Dn l i:=by
 unfold Dn;rw [Array.getD_eq_getD_getElem?,h];simp
section
variable {P:Program} {md:Region.Mode} {G:Array Oper} {Q:Exit→Act→World→Prop}
theorem wpOp_of {i:Nat} {o:Oper} {K:Act→World→Prop} {a:Act} {w:World} (ho:G[i]?=some o) (hg:o.guard=none) (h:o.wp P a w K Q):wpOp P G Q i K a w:=by
 unfold wpOp;rw [ho];have hw:Region.wanted o (yielded G a.tmps)=true:=by simp [Region.wanted,hg]
 simp only [hw,if_true];exact .inl h
theorem dep_done {l:Array Bool} {i:Nat} (hi:i∈Region.ready md G l) {o:Oper} (ho:G[i]?=some o) {k:Nat} (hk:(o.after.toList.any fun e=>Region.binds md e && decide (e.on=k))=true):Dn l k:=by
 obtain ⟨_,_,o',U,ha⟩:=ready_false hi;rw [ho] at U;obtain rfl:o=o':=by simpa using U
 rw [← Array.all_toList,List.all_eq_true] at ha;rw [List.any_eq_true] at hk;obtain ⟨e,he,hb⟩:=hk;rw [Bool.and_eq_true,decide_eq_true_eq] at hb;have:=ha e he;rw [hb.1,hb.2] at this;unfold Dn;simpa using this
theorem all_done {l:Array Bool} (hs:l.size=G.size) (hr:Region.ready md G l=[]) (ho:∀ (i:Nat) (o:Oper),G[i]?=some o→∀ e∈o.after.toList,e.on<i):∀ i,i<G.size→Dn l i:=by
 intro i
 induction i using Nat.strongRecOn with
 | _ i ih =>
  intro hi;refine Classical.byContradiction fun hn=>?_
  have Y:i<l.size:=by omega
  have hl:l[i]?=some false:=by
   rw [Array.getElem?_eq_getElem Y]
   congr 1
   cases e:l[i]
   · rfl
   exact absurd (by unfold Dn;rw [Array.getD_eq_getD_getElem?,Array.getElem?_eq_getElem Y,e];rfl) hn
  obtain ⟨o,T⟩:∃ o,G[i]?=some o:=⟨G[i],Array.getElem?_eq_getElem hi⟩
  have hm:i∈Region.ready md G l:=by
   unfold Region.ready;rw [List.mem_filter];refine ⟨List.mem_range.2 hi,?_⟩;rw [Bool.and_eq_true];constructor
   · rw [Array.getD_eq_getD_getElem?,hl];rfl
   rw [T]
   show (o.after.all fun e=>!Region.binds md e || l.getD e.on false)=true
   rw [← Array.all_toList,List.all_eq_true];intro e he;have N:=ho i o T e he;have:=ih e.on N (by omega);unfold Dn at this;rw [this];simp
  rw [hr] at hm;simp at hm
end
theorem allocAtA {W:World} {o:Obj} {k:Nat} (h:k=W.heap.size):(W.alloc o).heap[k]?=some o:=by
 subst h
 show (W.heap.push o)[W.heap.size]?=_
 rw [Array.getElem?_push,if_pos rfl]
def Str2 (B:Nat) (w:World) (g:Nat):Prop:=g≠B∧∃ s1 s2:ByteArray,w.heap[g]?=some (.cells #[.string s1,.string s2] 9 (0,0))∧LowS s1∧LowS s2
def AxSm (x:AX):Prop:=x.c.bulk≤100000∧x.d.bulk≤100000∧x.r.length≤1∧x.s.length≤1∧x.a.length≤1∧x.b.length≤1
def AxGd (x:AX):Prop:=AxSm x∧axOk x=true
theorem AxGd.sm {x:AX} (h:AxGd x):AxSm x:=h.1
def AxV (lo:Nat) (w:World) (kd:Int) (v:Value):Prop :=
 ∃ (c0 c1 c2 c3 d0 d1 d2 d3:Value) (ra:Option Addr) (rn rc:Nat) (sa:Option Addr) (sn sc:Nat) (aa:Option Addr) (an ac:Nat) (ba:Option Addr) (bn bc:Nat) (x:AX),
  v=.agg #[.int .i64 kd,c0,c1,c2,c3,d0,d1,d2,d3,.slice ra rn rc,.slice sa sn sc,.slice aa an ac,.slice ba bn bc]∧x.kind=kd∧RdA lo w.heap.size w 20 c0 c1 c2 c3 d0 d1 d2 d3 ra rn rc sa sn sc aa an ac ba bn bc x∧AxGd x
inductive RK | row | cur | idx | adr | str | word | axm (kd:Int)
def RV (lo B:Nat):RK→World→Value→Prop
 | .row,w,v=>∃ g,v=.slice (some ⟨g,0,none⟩) 2 2∧Str2 B w g
 | .cur,_,v=>v=.pointer (some ⟨B,0,none⟩)
 | .idx,_,v=>∃ j:Nat,j<2∧v=.int .i64 j
 | .adr,w,v=>∃ g j,v=.pointer (some ⟨g,j,none⟩)∧j<2∧Str2 B w g
 | .str,_,v=>∃ s:ByteArray,v=.string s∧LowS s
 | .word,w,v=>∃ b k c z,v=.slice b k c∧Rd lo w.heap.size w b k c z∧(z.length≤1∧lowOk z=true)
 | .axm kd,w,v=>AxV lo w kd v
theorem Str2.next {B g:Nat} {w w':World} (h:Str2 B w g) (hb:Bt B w.heap.size w w'):Str2 B w' g:=by
 obtain ⟨h1,s1,s2,h2,h3⟩:=h;exact ⟨h1,s1,s2,(hb.block g (Array.getElem?_eq_some_iff.1 h2).1 h1).trans h2,h3⟩
theorem Rd.next {lo B:Nat} {w w':World} {b:Option Addr} {k c:Nat} {z:List Int} (h:Rd lo w.heap.size w b k c z) (hB:B<lo) (hb:Bt B w.heap.size w w'):Rd lo w'.heap.size w' b k c z :=
 (h.same (fun q h1 h2=>hb.block q h2 (by omega))).mono (Nat.le_refl _) hb.size
theorem AxV.next {lo B:Nat} {w w':World} {kd:Int} {v:Value} (h:AxV lo w kd v) (hB:B<lo) (hb:Bt B w.heap.size w w'):AxV lo w' kd v:=by
 obtain ⟨c0,c1,c2,c3,d0,d1,d2,d3,ra,rn,rc,sa,sn,sc,aa,an,ac,ba,bn,bc,x,e,hk,hr,hs⟩:=h;have I:Same lo w.heap.size w w':=fun q h1 h2=>hb.block q h2 (by omega)
 exact ⟨c0,c1,c2,c3,d0,d1,d2,d3,ra,rn,rc,sa,sn,sc,aa,an,ac,ba,bn,bc,x,e,hk,⟨RdC.mono (Nat.le_refl _) hb.size (RdC.same I hr.c),RdC.mono (Nat.le_refl _) hb.size (RdC.same I hr.d),hr.r.next hB hb,hr.s.next hB hb,hr.a.next hB hb,hr.b.next hB hb⟩,hs⟩
theorem RV.next {lo B:Nat} {kd:RK} {w w':World} {v:Value} (h:RV lo B kd w v) (hB:B<lo) (hb:Bt B w.heap.size w w'):RV lo B kd w' v:=by
 cases kd with
 | row=>obtain ⟨g,e,h⟩:=h;exact ⟨g,e,h.next hb⟩
 | cur=>exact h
 | idx=>exact h
 | adr=>obtain ⟨g,j,e,hj,h⟩:=h;exact ⟨g,j,e,hj,h.next hb⟩
 | str=>exact h
 | word=>obtain ⟨b,k,c,z,e,h,hz⟩:=h;exact ⟨b,k,c,z,e,h.next hB hb,hz⟩
 | axm kd=>exact AxV.next h hB hb
theorem rdZero (lo hi d:Nat) (w:World):RdC lo hi w (d+1) (.agg #[.int .i64 0,.slice none 0 0,.slice none 0 0,.slice none 0 0]) CN.zero:=by
 have h0:Rd lo hi w none 0 0 []:=⟨rfl,⟨by omega,by omega⟩,by simp,.inl rfl⟩;exact ⟨none,0,0,none,0,0,none,0,0,rfl,h0,h0,⟨rfl,⟨by omega,by omega⟩,.inl rfl⟩⟩
theorem rdNil (lo hi:Nat) (w:World):Rd lo hi w none 0 0 []:=⟨rfl,⟨by omega,by omega⟩,by simp,.inl rfl⟩
theorem zero_small:CN.zero.bulk≤100000:=by simp [CN.zero,CN.bulk,bulks]
theorem AxV.words {lo:Nat} {w:World} (kd:Int) {ra:Option Addr} {rn rc:Nat} {sa:Option Addr} {sn sc:Nat} {aa:Option Addr} {an ac:Nat} {ba:Option Addr} {bn bc:Nat} {zr zs za zb:List Int}
    (h1:Rd lo w.heap.size w ra rn rc zr) (h2:Rd lo w.heap.size w sa sn sc zs) (h3:Rd lo w.heap.size w aa an ac za) (h4:Rd lo w.heap.size w ba bn bc zb) (l1:zr.length≤1) (l2:zs.length≤1) (l3:za.length≤1) (l4:zb.length≤1) (a0:axOk ⟨kd,CN.zero,CN.zero,zr,zs,za,zb⟩=true) :
    AxV lo w kd (.agg #[.int .i64 kd,.int .i64 0,.slice none 0 0,.slice none 0 0,.slice none 0 0,.int .i64 0,.slice none 0 0,.slice none 0 0,.slice none 0 0,.slice ra rn rc,.slice sa sn sc,.slice aa an ac,.slice ba bn bc]) :=
 ⟨_,_,_,_,_,_,_,_,ra,rn,rc,sa,sn,sc,aa,an,ac,ba,bn,bc,⟨kd,CN.zero,CN.zero,zr,zs,za,zb⟩,rfl,rfl,⟨rdZero _ _ 19 _,rdZero _ _ 19 _,h1,h2,h3,h4⟩,⟨zero_small,zero_small,l1,l2,l3,l4⟩,a0⟩
theorem axOk_role {zr zs:List Int} (h1:lowOk zr=true) (h2:lowOk zs=true):axOk ⟨3,CN.zero,CN.zero,zr,zs,[],[]⟩=true:=by
 show (decide ((0:Int)≤3∧(3:Int)≤5) && (zeroB CN.zero && (zeroB CN.zero && (lowOk zr && (lowOk zs && (decide (([]:List Int).length=0) && decide (([]:List Int).length=0)))))))=true
 rw [h1,h2];decide
theorem axOk_rel {zr za zb:List Int} (h1:lowOk zr=true) (h2:lowOk za=true) (h3:lowOk zb=true):axOk ⟨5,CN.zero,CN.zero,zr,[],za,zb⟩=true:=by
 show (decide ((0:Int)≤5∧(5:Int)≤5) && (zeroB CN.zero && (zeroB CN.zero && (lowOk zr && (decide (([]:List Int).length=0) && (lowOk za && lowOk zb))))))=true
 rw [h1,h2,h3];decide
theorem axOk_is {c:CN} {za:List Int} (h1:conOk c=true) (h2:lowOk za=true):axOk ⟨4,c,CN.zero,[],[],za,[]⟩=true:=by
 show (decide ((0:Int)≤4∧(4:Int)≤5) && (conOk c && (zeroB CN.zero && (decide (([]:List Int).length=0) && (decide (([]:List Int).length=0) && (lowOk za && decide (([]:List Int).length=0)))))))=true
 rw [h1,h2];decide
theorem axOk_two {x:Int} {c d:CN} (hx:0≤x∧x≤2) (h1:conOk c=true) (h2:conOk d=true):axOk ⟨x,c,d,[],[],[],[]⟩=true:=by
 have:x=0∨x=1∨x=2:=by omega
 have J:∀ k:Int,decide (0≤k∧k≤5)=true→(decide (0≤k∧k≤5) && (conOk c && (conOk d && (decide (([]:List Int).length=0) && (decide (([]:List Int).length=0) && (decide (([]:List Int).length=0) && decide (([]:List Int).length=0)))))))=true:=by
  intro k hk;rw [h1,h2,hk];decide
 rcases this with rfl | rfl | rfl
 · exact J 0 (by decide)
 · exact J 1 (by decide)
 exact J 2 (by decide)
def zeroA:Array Value:=#[.int .i64 0,.int .i64 0,.slice none 0 0,.slice none 0 0,.slice none 0 0,.int .i64 0,.slice none 0 0,.slice none 0 0,.slice none 0 0,.slice none 0 0,.slice none 0 0,.slice none 0 0,.slice none 0 0]
def AdP (B:Nat) (a:Option Addr) (n D:Nat) (zs:List Int) (hi:Nat) (w:World) (e:Ending) (w':World):Prop :=
 ∃ (kd:Int) (v:Value),e=.returned v∧AxV w.heap.size w' kd v∧(-1≤kd∧kd≤7)∧Cur w' B a n D zs hi∧Bt B w.heap.size w w'
theorem AxV.one {lo:Nat} {w:World} {kd:Int} {v:Value} (h:AxV lo w kd v):∃ cs,v=.agg cs∧cs.size=13∧cs.all (·.oneCell')=true:=by
 obtain ⟨c0,c1,c2,c3,d0,d1,d2,d3,ra,rn,rc,sa,sn,sc,aa,an,ac,ba,bn,bc,x,rfl,_,hr,_⟩:=h;obtain ⟨rfl,⟨_,_,_,rfl⟩,⟨_,_,_,rfl⟩,⟨_,_,_,rfl⟩⟩:=hr.c.formS;obtain ⟨rfl,⟨_,_,_,rfl⟩,⟨_,_,_,rfl⟩,⟨_,_,_,rfl⟩⟩:=hr.d.formS;exact ⟨_,rfl,rfl,by simp [Value.oneCell']⟩
theorem DgM.finA {B:Nat} {a:Option Addr} {n D:Nat} {zs:List Int} {hi:Nat} {w V:World} {kd:Int} {cs:Array Value} (h:DgM (.cells zeroA 39) B a n D zs hi w V) (hB:B<w.heap.size) (hv:AxV (w.heap.size+1) V kd (.agg cs)) (hk:-1≤kd∧kd≤7) :
    AdP B a n D zs hi w (.returned (.agg cs)) (V.setRow w.heap.size cs)∧(V.setRow w.heap.size cs).heap[w.heap.size]?=some (.cells cs 39 (0,0)):=by
 have ho:∀ q,q≠w.heap.size→(V.setRow w.heap.size cs).heap[q]?=V.heap[q]?:=fun q hq=>setRow_other V w.heap.size q cs hq
 have hs:(V.setRow w.heap.size cs).heap.size=V.heap.size:=setRow_size _ _ _;refine ⟨⟨kd,_,rfl,?_,hk,h.cur.keepB (fun q hq=>ho q (by omega)),⟨h.bt.os,h.bt.tape,h.bt.output,by rw [hs];exact h.bt.size,fun q q1 q2=>(ho q (by omega)).trans (h.bt.block q q1 q2)⟩⟩,setRow_heap V w.heap.size zeroA cs _ _ h.box⟩;obtain ⟨c0,c1,c2,c3,d0,d1,d2,d3,ra,rn,rc,sa,sn,sc,aa,an,ac,ba,bn,bc,x,e,hk,hr,I⟩:=hv;have E:Same (w.heap.size+1) V.heap.size V (V.setRow w.heap.size cs):=fun q h1 _=>ho q (by omega)
 rw [AxV,hs];exact ⟨c0,c1,c2,c3,d0,d1,d2,d3,ra,rn,rc,sa,sn,sc,aa,an,ac,ba,bn,bc,x,e,hk,⟨RdC.mono (Nat.le_succ _) (Nat.le_refl _) (RdC.same E hr.c),RdC.mono (Nat.le_succ _) (Nat.le_refl _) (RdC.same E hr.d),(hr.r.same E).mono (Nat.le_succ _) (Nat.le_refl _),(hr.s.same E).mono (Nat.le_succ _) (Nat.le_refl _),(hr.a.same E).mono (Nat.le_succ _) (Nat.le_refl _),(hr.b.same E).mono (Nat.le_succ _) (Nat.le_refl _)⟩,I⟩
structure DI (m base:Nat) (H:Nat→RK) (B:Nat) (da:Option Addr) (n D:Nat) (zs:List Int) (hi:Nat) (w0:World) (F:Act→World→Prop) (l:Array Bool) (a:Act) (w:World):Prop where
 sz:l.size=m+1
 tz:base+m≤a.tmps.size
 df:a.defers=[]
 fin:Dn l m→F a w
 all:Dn l m→∀ k,k<m→Dn l k
 mem:¬ Dn l m→DgM (.cells zeroA 39) B da n D zs hi w0 w∧a.tmps[0]?.getD undef=.pointer (some ⟨B,0,none⟩)∧a.tmps[2]?.getD undef=.pointer (some ⟨w0.heap.size,0,none⟩)∧RV (w0.heap.size+1) B .word w (a.tmps[3]?.getD undef) ∧
  ∀ k,k<m→Dn l k→RV (w0.heap.size+1) B (H k) w (a.tmps[base+k]?.getD undef)
theorem tmps_set {a:Array Value} {i j:Nat} {v:Value} (hi:i<a.size):(a.setIfInBounds i v)[j]?.getD undef=if i=j then v else a[j]?.getD undef:=by
 rw [Array.getElem?_setIfInBounds];by_cases h:i=j
 · subst h;simp [hi]
 simp [h]
section
variable {m base:Nat} {H:Nat→RK} {B:Nat} {da:Option Addr} {n D:Nat} {zs:List Int} {hi:Nat} {w0:World} {F:Act→World→Prop} {l:Array Bool} {a:Act} {w:World}
theorem DI.open (h:DI m base H B da n D zs hi w0 F l a w) {i:Nat} (hn:l[i]?=some false) (N:i<m+1):¬ Dn l m:=by
 intro hd;by_cases e:i=m
 · subst e;exact not_dn hn hd
 exact not_dn hn (h.all hd i (by omega))
theorem DI.step (h:DI m base H B da n D zs hi w0 F l a w) (hB:B<w0.heap.size) (a1:4≤base) {i:Nat} (N:i<m) (hn:l[i]?=some false) {v:Value} {w2:World} (hm:DgM (.cells zeroA 39) B da n D zs hi w0 w2) (hb:Bt B w.heap.size w w2) (hv:RV (w0.heap.size+1) B (H i) w2 v) :
    DI m base H B da n D zs hi w0 F (l.setIfInBounds i true) { tmps:=a.tmps.setIfInBounds (base+i) v,defers:=a.defers } w2:=by
 have ho:=h.open hn (by omega);have Z:=h.tz
 have X:¬ Dn (l.setIfInBounds i true) m:=by
  rw [dn_set];rintro (⟨e,_⟩ | q)
  · omega
  exact ho q
 obtain ⟨_,t0,t2,t3,hf⟩:=h.mem ho;refine ⟨by simpa using h.sz,by simpa using Z,h.df,fun q=>absurd q X,fun q=>absurd q X,fun _=>⟨hm,?_,?_,?_,?_⟩⟩
 · show (a.tmps.setIfInBounds (base+i) v)[0]?.getD undef=_
   rw [tmps_set (by omega),if_neg (by omega)];exact t0
 · show (a.tmps.setIfInBounds (base+i) v)[2]?.getD undef=_
   rw [tmps_set (by omega),if_neg (by omega)];exact t2
 · show RV _ _ _ _ ((a.tmps.setIfInBounds (base+i) v)[3]?.getD undef)
   rw [tmps_set (by omega),if_neg (by omega)];exact t3.next (by omega) hb
 intro k hk hd
 show RV _ _ _ _ ((a.tmps.setIfInBounds (base+i) v)[base+k]?.getD undef)
 rw [tmps_set (by omega)];by_cases e:base+i=base+k
 · obtain rfl:i=k:=by omega
   rw [if_pos rfl];exact hv
 rw [if_neg e];rw [dn_set] at hd;rcases hd with ⟨q,_⟩ | q
 · omega
 exact (hf k hk q).next (by omega) hb
theorem DI.stop (h:DI m base H B da n D zs hi w0 F l a w) (O:∀ k,k<m→Dn l k) {w2:World} (hf:F a w2):DI m base H B da n D zs hi w0 F (l.setIfInBounds m true) a w2:=by
 refine ⟨by simpa using h.sz,h.tz,h.df,fun _=>hf,fun _ k hk=>dn_set.2 (.inr (O k hk)),fun q=>absurd (dn_set.2 (.inl ⟨rfl,by have:=h.sz;omega⟩)) q⟩
end
end

section
open Go.RowKit
abbrev opA4_0 : Oper := { dst := some 10, op := Op.buildSlice 70 2 #[(0, Operand.const (Value.string { data := #[114] })), (1, Operand.const (Value.string { data := #[115] }))], type := 70, pos := "l03_kb.go:260", after := #[], guard := none }
abbrev opA4_1 : Oper := { dst := some 11, op := Op.move (Operand.tmp 0), type := 43, pos := "l03_kb.go:260", after := #[], guard := none }
abbrev opA4_2 : Oper := { dst := some 12, op := Op.call { callee := Callee.value (Operand.func 37), args := #[Operand.tmp 11, Operand.const (Value.int IntKind.i64 2)], argTypes := #[43, 3] }, type := 3, pos := "l03_kb.go:260", after := #[{ on := 1, ground := Ground.data }], guard := none }
abbrev opA4_3 : Oper := { dst := some 13, op := Op.indexAddr 70 (Operand.tmp 10) (Operand.tmp 12), type := 0, pos := "l03_kb.go:260", after := #[{ on := 0, ground := Ground.data }, { on := 2, ground := Ground.data }], guard := none }
abbrev opA4_4 : Oper := { dst := some 14, op := Op.load 9 (Operand.tmp 13), type := 9, pos := "l03_kb.go:260", after := #[{ on := 3, ground := Ground.data }], guard := none }
abbrev opA4_5 : Oper := { dst := some 15, op := Op.convert 9 22 (Operand.tmp 14), type := 22, pos := "l03_kb.go:260", after := #[{ on := 4, ground := Ground.data }], guard := none }
abbrev opA4_6 : Oper := { dst := some 16, op := Op.buildSlice 70 2 #[(0, Operand.const (Value.string { data := #[114] })), (1, Operand.const (Value.string { data := #[115] }))], type := 70, pos := "l03_kb.go:260", after := #[], guard := none }
abbrev opA4_7 : Oper := { dst := some 17, op := Op.move (Operand.tmp 0), type := 43, pos := "l03_kb.go:260", after := #[], guard := none }
abbrev opA4_8 : Oper := { dst := some 18, op := Op.call { callee := Callee.value (Operand.func 37), args := #[Operand.tmp 17, Operand.const (Value.int IntKind.i64 2)], argTypes := #[43, 3] }, type := 3, pos := "l03_kb.go:260", after := #[{ on := 7, ground := Ground.data }, { on := 2, ground := Ground.chain }], guard := none }
abbrev opA4_9 : Oper := { dst := some 19, op := Op.indexAddr 70 (Operand.tmp 16) (Operand.tmp 18), type := 0, pos := "l03_kb.go:260", after := #[{ on := 6, ground := Ground.data }, { on := 8, ground := Ground.data }], guard := none }
abbrev opA4_10 : Oper := { dst := some 20, op := Op.load 9 (Operand.tmp 19), type := 9, pos := "l03_kb.go:260", after := #[{ on := 9, ground := Ground.data }], guard := none }
abbrev opA4_11 : Oper := { dst := some 21, op := Op.convert 9 22 (Operand.tmp 20), type := 22, pos := "l03_kb.go:260", after := #[{ on := 10, ground := Ground.data }], guard := none }
abbrev opA4_12 : Oper := { dst := some 22, op := Op.build 39 #[(0, Operand.const (Value.int IntKind.i64 3)), (3, Operand.tmp 15), (4, Operand.tmp 21)], type := 39, pos := "l03_kb.go:260", after := #[{ on := 5, ground := Ground.data }, { on := 11, ground := Ground.data }], guard := none }
abbrev opA4_13 : Oper := { dst := none, op := Op.store 39 (Operand.tmp 2) (Operand.tmp 22), type := 0, pos := "l03_kb.go:260", after := #[{ on := 12, ground := Ground.data }, { on := 8, ground := Ground.chain }, { on := 0, ground := Ground.phase }, { on := 1, ground := Ground.phase }, { on := 2, ground := Ground.phase }, { on := 3, ground := Ground.phase }, { on := 4, ground := Ground.phase }, { on := 5, ground := Ground.phase }, { on := 6, ground := Ground.phase }, { on := 7, ground := Ground.phase }, { on := 8, ground := Ground.phase }, { on := 9, ground := Ground.phase }, { on := 10, ground := Ground.phase }, { on := 11, ground := Ground.phase }, { on := 12, ground := Ground.phase }], guard := none }
def opsA4:Array Oper:=#[opA4_0,opA4_1,opA4_2,opA4_3,opA4_4,opA4_5,opA4_6,opA4_7,opA4_8,opA4_9,opA4_10,opA4_11,opA4_12,opA4_13]
def tag4:Nat→RK
 | 0=>.row
 | 1=>.cur
 | 2=>.idx
 | 3=>.adr
 | 4=>.str
 | 5=>.word
 | 6=>.row
 | 7=>.cur
 | 8=>.idx
 | 9=>.adr
 | 10=>.str
 | 11=>.word
 | 12=>.axm 3
 | _=>.cur
def AxF (B:Nat) (da:Option Addr) (n z:Nat) (zs:List Int) (hi:Nat) (w0:World) (kd:Int) (a:Act) (w:World):Prop :=
 ∃ (cs:Array Value) (V:World),DgM (.cells zeroA 39) B da n z zs hi w0 V∧w=V.setRow w0.heap.size cs∧AxV (w0.heap.size+1) V kd (.agg cs)∧cs.size=13∧a.tmps[2]?.getD undef=.pointer (some ⟨w0.heap.size,0,none⟩)∧a.defers=[]
theorem infoAx13:(Tryz.prog.info? 39).map (·.size)=some 13:=by kernel_rfl
set_option maxRecDepth 100000 in
set_option maxHeartbeats 4000000 in
theorem stepA4 {B:Nat} {da:Option Addr} {n z:Nat} {zs:List Int} {hi:Nat} {w0:World} (hB:B<w0.heap.size) {Q:Exit→Act→World→Prop} (l:Array Bool) (a:Act) (w:World) (i:Nat) (hI:DI 13 10 tag4 B da n z zs hi w0 (AxF B da n z zs hi w0 3) l a w) (h:i∈Region.ready .any opsA4 l):wpOp Tryz.prog opsA4 Q i (DI 13 10 tag4 B da n z zs hi w0 (AxF B da n z zs hi w0 3) (l.setIfInBounds i true)) a w:=by
 obtain ⟨hn,a4,_⟩:=ready_false h;have N:i<14:=a4;obtain ⟨hM,t0,t2,t3,hf⟩:=hI.mem (hI.open hn N);have ae:=hM.lt;have:i=0∨i=1∨i=2∨i=3∨i=4∨i=5∨i=6∨i=7∨i=8∨i=9∨i=10∨i=11∨i=12∨i=13:=by omega
 rcases this with rfl | rfl | rfl | rfl | rfl | rfl | rfl | rfl | rfl | rfl | rfl | rfl | rfl | rfl
 · refine wpOp_of (o:=opA4_0) rfl rfl ?_;go_simp;have hb:Below w.heap.size w (w.alloc (.cells #[.string { data:=#[114] },.string { data:=#[115] }] 9)):=(Below.refl _ _).alloc (Nat.le_refl _) _;exact hI.step hB (by omega) (by omega) hn (hM.below hB hb) (Bt.of_below hb) ⟨w.heap.size,rfl,by omega,_,_,allocAtA rfl,low_114,low_115⟩
 · refine wpOp_of (o:=opA4_1) rfl rfl ?_;go_simp;exact hI.step hB (by omega) (by omega) hn hM (Bt.refl _ _ _) rfl
 · have d1:=dep_done h (o:=opA4_2) rfl (k:=1) (by decide);have r1:=hf 1 (by omega) d1;have c1:a.tmps[11]?.getD undef=.pointer (some ⟨B,0,none⟩):=r1;refine wpOp_of (o:=opA4_2) rfl rfl ?_;go_simp;refine (l1Below_any hM.cur 2 (by omega)).mono ?_;rintro e w2 ⟨x,rfl,⟨F,a0⟩,hc,ho⟩;exact hI.step hB (by omega) (by omega) hn (hM.only hB hc ho) ho.bt ⟨x.toNat,by omega,by rw [Int.toNat_of_nonneg F]⟩
 · have d0:=dep_done h (o:=opA4_3) rfl (k:=0) (by decide);have r0:=hf 0 (by omega) d0;have d2:=dep_done h (o:=opA4_3) rfl (k:=2) (by decide);have r2:=hf 2 (by omega) d2;obtain ⟨g,hg,hs⟩:=r0;obtain ⟨j,hj,hv⟩:=r2;have c0:a.tmps[10]?.getD undef=.slice (some ⟨g,0,none⟩) 2 2:=hg;have c1:a.tmps[12]?.getD undef=.int .i64 j:=hv;have a5:(j:Int)<2:=by omega
   refine wpOp_of (o:=opA4_3) rfl rfl ?_;go_simp;exact hI.step hB (by omega) (by omega) hn hM (Bt.refl _ _ _) ⟨g,j,rfl,hj,hs⟩
 · have d3:=dep_done h (o:=opA4_4) rfl (k:=3) (by decide);have r3:=hf 3 (by omega) d3;obtain ⟨g,j,hg,hj,hs⟩:=r3;have c0:a.tmps[13]?.getD undef=.pointer (some ⟨g,j,none⟩):=hg;obtain ⟨_,s1,s2,hh,l1,l2⟩:=hs
   obtain ⟨s,hc,hl⟩:∃ s:ByteArray,w.cell? ⟨g,j,none⟩=some (.string s)∧LowS s:=by
    match j,hj with
    | 0,_=>exact ⟨s1,by simp [World.cell?,hh],l1⟩
    | 1,_=>exact ⟨s2,by simp [World.cell?,hh],l2⟩
   refine wpOp_of (o:=opA4_4) rfl rfl ?_;go_simp;exact hI.step hB (by omega) (by omega) hn hM (Bt.refl _ _ _) ⟨s,rfl,hl⟩
 · have d4:=dep_done h (o:=opA4_5) rfl (k:=4) (by decide);have r4:=hf 4 (by omega) d4;obtain ⟨s,hs,hl⟩:=r4;have c0:a.tmps[14]?.getD undef=.string s:=hs;have a7:(convert 9 22 (.string s)).run Tryz.prog w=.ok (.slice (some ⟨w.heap.size,0,none⟩) s.size (grownCap w s.size 0 5)) (Lib.bytesWorld w 5 s):=Lib.run_convert_string_bytes w 9 22 5 s Tryz.underlying9 Tryz.underlying22 Tryz.underlying5;refine wpOp_of (o:=opA4_5) rfl rfl ?_;go_simp;have hb:=bytes_below w 5 s;exact hI.step hB (by omega) (by omega) hn (hM.below hB hb) (Bt.of_below hb) ⟨_,_,_,_,rfl,(bw_rd w s (by have:=hl.1;omega)).mono (by omega) (Nat.le_refl _),⟨by rw [numsOf_len];exact hl.1,hl.2⟩⟩
 · refine wpOp_of (o:=opA4_6) rfl rfl ?_;go_simp;have hb:Below w.heap.size w (w.alloc (.cells #[.string { data:=#[114] },.string { data:=#[115] }] 9)):=(Below.refl _ _).alloc (Nat.le_refl _) _;exact hI.step hB (by omega) (by omega) hn (hM.below hB hb) (Bt.of_below hb) ⟨w.heap.size,rfl,by omega,_,_,allocAtA rfl,low_114,low_115⟩
 · refine wpOp_of (o:=opA4_7) rfl rfl ?_;go_simp;exact hI.step hB (by omega) (by omega) hn hM (Bt.refl _ _ _) rfl
 · have d7:=dep_done h (o:=opA4_8) rfl (k:=7) (by decide);have r7:=hf 7 (by omega) d7;have c7:a.tmps[17]?.getD undef=.pointer (some ⟨B,0,none⟩):=r7;refine wpOp_of (o:=opA4_8) rfl rfl ?_;go_simp;refine (l1Below_any hM.cur 2 (by omega)).mono ?_;rintro e w2 ⟨x,rfl,⟨F,a0⟩,hc,ho⟩;exact hI.step hB (by omega) (by omega) hn (hM.only hB hc ho) ho.bt ⟨x.toNat,by omega,by rw [Int.toNat_of_nonneg F]⟩
 · have d6:=dep_done h (o:=opA4_9) rfl (k:=6) (by decide);have r6:=hf 6 (by omega) d6;have d8:=dep_done h (o:=opA4_9) rfl (k:=8) (by decide);have r8:=hf 8 (by omega) d8;obtain ⟨g,hg,hs⟩:=r6;obtain ⟨j,hj,hv⟩:=r8;have c0:a.tmps[16]?.getD undef=.slice (some ⟨g,0,none⟩) 2 2:=hg;have c1:a.tmps[18]?.getD undef=.int .i64 j:=hv;have a5:(j:Int)<2:=by omega
   refine wpOp_of (o:=opA4_9) rfl rfl ?_;go_simp;exact hI.step hB (by omega) (by omega) hn hM (Bt.refl _ _ _) ⟨g,j,rfl,hj,hs⟩
 · have d9:=dep_done h (o:=opA4_10) rfl (k:=9) (by decide);have r9:=hf 9 (by omega) d9;obtain ⟨g,j,hg,hj,hs⟩:=r9;have c0:a.tmps[19]?.getD undef=.pointer (some ⟨g,j,none⟩):=hg;obtain ⟨_,s1,s2,hh,l1,l2⟩:=hs
   obtain ⟨s,hc,hl⟩:∃ s:ByteArray,w.cell? ⟨g,j,none⟩=some (.string s)∧LowS s:=by
    match j,hj with
    | 0,_=>exact ⟨s1,by simp [World.cell?,hh],l1⟩
    | 1,_=>exact ⟨s2,by simp [World.cell?,hh],l2⟩
   refine wpOp_of (o:=opA4_10) rfl rfl ?_;go_simp;exact hI.step hB (by omega) (by omega) hn hM (Bt.refl _ _ _) ⟨s,rfl,hl⟩
 · have aa:=dep_done h (o:=opA4_11) rfl (k:=10) (by decide);have Y:=hf 10 (by omega) aa;obtain ⟨s,hs,hl⟩:=Y;have c0:a.tmps[20]?.getD undef=.string s:=hs;have a7:(convert 9 22 (.string s)).run Tryz.prog w=.ok (.slice (some ⟨w.heap.size,0,none⟩) s.size (grownCap w s.size 0 5)) (Lib.bytesWorld w 5 s):=Lib.run_convert_string_bytes w 9 22 5 s Tryz.underlying9 Tryz.underlying22 Tryz.underlying5;refine wpOp_of (o:=opA4_11) rfl rfl ?_;go_simp;have hb:=bytes_below w 5 s;exact hI.step hB (by omega) (by omega) hn (hM.below hB hb) (Bt.of_below hb) ⟨_,_,_,_,rfl,(bw_rd w s (by have:=hl.1;omega)).mono (by omega) (Nat.le_refl _),⟨by rw [numsOf_len];exact hl.1,hl.2⟩⟩
 · have d5:=dep_done h (o:=opA4_12) rfl (k:=5) (by decide);have r5:=hf 5 (by omega) d5;have a9:=dep_done h (o:=opA4_12) rfl (k:=11) (by decide);have X:=hf 11 (by omega) a9;obtain ⟨b5,k5,c5,z5,a1,a3,T⟩:=r5;have e5:a.tmps[15]?.getD undef=.slice b5 k5 c5:=a1;obtain ⟨ac,Z,ab,ad,H,I,D⟩:=X;have af:a.tmps[21]?.getD undef=.slice ac Z ab:=H;refine wpOp_of (o:=opA4_12) rfl rfl ?_;go_simp;exact hI.step hB (by omega) (by omega) hn hM (Bt.refl _ _ _) (AxV.words 3 a3 I (rdNil _ _ _) (rdNil _ _ _) T.1 D.1 (Nat.zero_le _) (Nat.zero_le _) (axOk_role T.2 D.2))
 have E:∀ k,k<13→Dn l k:=by
  intro k hk;have:k=0∨k=1∨k=2∨k=3∨k=4∨k=5∨k=6∨k=7∨k=8∨k=9∨k=10∨k=11∨k=12:=by omega
  rcases this with rfl | rfl | rfl | rfl | rfl | rfl | rfl | rfl | rfl | rfl | rfl | rfl | rfl <;> exact dep_done h (o:=opA4_13) rfl (by decide)
 have O:=hf 12 (by omega) (E 12 (by omega));obtain ⟨cs,U,G,J⟩:=AxV.one O;have a8:AxV (w0.heap.size+1) w 3 (.agg cs):=by rw [← U];exact O
 refine wpOp_of (o:=opA4_13) rfl rfl ?_;refine wp_store_row 39 (.tmp 2) (.tmp 22) rfl w0.heap.size cs (by simpa [Act.eval] using t2) (by simpa [Act.eval] using U) 39 zeroA hM.box (by rw [G];exact infoAx13) (by rw [G];rfl) J ?_;exact hI.stop E ⟨cs,w,hM,rfl,a8,G,t2,hI.df⟩
theorem ordA4:∀ (i:Nat) (o:Oper),opsA4[i]?=some o→∀ e∈o.after.toList,e.on<i:=by
 intro i o ho e he;have hi:i<14:=(Array.getElem?_eq_some_iff.1 ho).1;have:i=0∨i=1∨i=2∨i=3∨i=4∨i=5∨i=6∨i=7∨i=8∨i=9∨i=10∨i=11∨i=12∨i=13:=by omega
 rcases this with rfl | rfl | rfl | rfl | rfl | rfl | rfl | rfl | rfl | rfl | rfl | rfl | rfl | rfl <;> (obtain rfl:_=o:=Option.some.inj ho;revert e;decide)
theorem regA4 {B:Nat} {da:Option Addr} {n z:Nat} {zs:List Int} {hi:Nat} {w0:World} (hB:B<w0.heap.size) {Q:Exit→Act→World→Prop} {id:Nat} {a:Act} {w:World} (a2:23≤a.tmps.size) (a6:a.defers=[]) (hM:DgM (.cells zeroA 39) B da n z zs hi w0 w) (t0:a.tmps[0]?.getD undef=.pointer (some ⟨B,0,none⟩)) (t2:a.tmps[2]?.getD undef=.pointer (some ⟨w0.heap.size,0,none⟩)) (t3:RV (w0.heap.size+1) B .word w (a.tmps[3]?.getD undef))
    (hQ:∀ a w,AxF B da n z zs hi w0 3 a w→Q .normal a w):(Code.region id opsA4 true).wp Tryz.prog Q a w:=by
 refine wp_region_any (by kernel_rfl) ?_
 have A:∀ k,¬ Dn (Array.replicate 14 false) k:=by
  intro k hk;unfold Dn at hk;rw [Array.getD_eq_getD_getElem?,Array.getElem?_replicate] at hk
  split at hk <;> simp at hk
 refine wpAny_inv (DI 13 10 tag4 B da n z zs hi w0 (AxF B da n z zs hi w0 3) ) (fun l a w i hI hi=>stepA4 hB l a w i hI hi) (fun l a w hI hr=>hQ a w (hI.fin (all_done (by rw [hI.sz];rfl) hr ordA4 13 (by decide)))) 14 _ _ _ (by decide) ?_;exact ⟨by simp;rfl,a2,a6,fun q=>absurd q (A _),fun q=>absurd q (A _),fun _=>⟨hM.drew,t0,t2,RV.next (w':=w.drew) t3 (by omega) (Bt.refl _ _ _).drew,fun k _ q=>absurd q (A _)⟩⟩
end

end Go.Proofs.YtocpeiaolofodaaGreat
