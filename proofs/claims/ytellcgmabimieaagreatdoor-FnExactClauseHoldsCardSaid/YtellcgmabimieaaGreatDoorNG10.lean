/- Several texts in one: ConTxt, AxMem, ClImpl3. -/
import Derived.Test.YtellcgmabimieaaGreatDoorNG6
import Derived.Test.YtellcgmabimieaaGreatDoorNG4
import Derived.Lib.AppendStr
import Derived.Test.YtellcgmabimieaaGreatDoorNG7
namespace Go.Proofs.YtellcgmabimieaaGreatDoor

section
open Go.RowKit
def wordOf (k:Int):List Int:=if k=0 then [84,111,112] else if k=1 then [66,111,116] else if k=3 then [78,111,116] else if k=4 then [65,110,100] else if k=5 then [79,114] else if k=6 then [83,111,109,101] else if k=7 then [65,108,108] else []
theorem wordOf_len (k:Int):(wordOf k).length≤4:=by
 unfold wordOf
 repeat' split
 all_goals simp
theorem wordOf_byte (k:Int):∀ x∈wordOf k,0≤x∧x≤255:=by
 unfold wordOf
 repeat' split
 all_goals (intro x hx;simp at hx;try omega)
def roleT (r:List Int):List Int:=if r=[] then [] else r++[32]
mutual
def textC:CN→List Int
 | .mk k n r ks=>if k=2 then n else if ks.length=0 then wordOf k else wordOf k++[40]++roleT r++textJ 0 ks++[41]
def textJ:Nat→List CN→List Int
 | _,[]=>[]
 | i,c :: cs=>gapT i++textC c++textJ (i+1) cs
end
theorem textC_eq (c:CN):textC c=if c.kind=2 then c.name else if c.kids.length=0 then wordOf c.kind else wordOf c.kind++[40]++roleT c.role++textJ 0 c.kids++[41]:=by
 cases c;rw [textC];rfl
theorem textJ_append (xs ys:List CN):∀ i,textJ i (xs++ys)=textJ i xs++textJ (i+xs.length) ys:=by
 induction xs with
 | nil=>intro i;simp [textJ]
 | cons x xs ih=>intro i;simp only [List.cons_append,textJ,ih,List.append_assoc,List.length_cons];rw [show i+1+xs.length=i+(xs.length+1) by omega]
theorem textJ_take_succ (cs:List CN) (j:Nat) (h:j<cs.length):textJ 0 (cs.take (j+1))=textJ 0 (cs.take j)++gapT j++textC (cs.getD j CN.zero):=by
 rw [take_succ_getD cs CN.zero j h,textJ_append];simp only [textJ,List.append_nil,List.length_take,Nat.zero_add];rw [show min j cs.length=j by omega,List.append_assoc]
theorem textJ_take_le (cs:List CN) (j:Nat):(textJ 0 (cs.take j)).length≤(textJ 0 cs).length:=by
 have:=textJ_append (cs.take j) (cs.drop j) 0;rw [List.take_append_drop] at this;rw [this,List.length_append];omega
theorem gapT_len (i:Nat):(gapT i).length≤1:=by unfold gapT;split <;> simp
mutual
theorem textC_len:∀ c:CN,(textC c).length≤30*c.bulk+10
 | .mk k n r ks=>by
  rw [textC,CN.bulk];have h1:=wordOf_len k;have h2:=textJ_len ks 0;have h3:(roleT r).length≤r.length+1:=by unfold roleT;split <;> simp
  split
  · omega
  split
  · omega
  simp only [List.length_append,List.length_cons,List.length_nil];omega
theorem textJ_len:∀ (cs:List CN) (i:Nat),(textJ i cs).length≤30*bulks cs
 | [],_=>by simp [textJ]
 | c :: cs,i=>by
  rw [textJ,bulks];have h1:=textC_len c;have h2:=textJ_len cs (i+1);have h3:=gapT_len i;simp only [List.length_append];omega
end
mutual
def wfC:CN→Bool
 | .mk k n r ks=>shapeB (.mk k n r ks) && wfL ks
def wfL:List CN→Bool
 | []=>true
 | c :: cs=>wfC c && wfL cs
end
theorem wfC_eq (c:CN):wfC c=(shapeB c && wfL c.kids):=by cases c;rw [wfC];rfl
theorem wfL_getD:∀ (cs:List CN) (j:Nat),j<cs.length→wfL cs=true→wfC (cs.getD j CN.zero)=true
 | [],_,h,_=>by simp at h
 | c :: cs,0,_,hw=>by rw [wfL,Bool.and_eq_true] at hw;exact hw.1
 | c :: cs,j+1,h,hw=>by
  rw [wfL,Bool.and_eq_true] at hw;have:=wfL_getD cs j (by simpa using h) hw.2;simpa [List.getD] using this
mutual
theorem wfC_of_parts:∀ (c:CN) (deep:Nat),(parts c deep).all okOne=true→wfC c=true
 | .mk k n r ks,deep,h=>by
  rw [parts,List.all_cons,Bool.and_eq_true] at h;rw [wfC,wfL_of_parts ks (deep+1) h.2,Bool.and_true];have:=h.1;unfold okOne at this;rw [Bool.and_eq_true] at this;exact this.2
theorem wfL_of_parts:∀ (cs:List CN) (deep:Nat),(partsL cs deep).all okOne=true→wfL cs=true
 | [],_,_=>by rw [wfL]
 | c :: cs,deep,h=>by
  rw [partsL,List.all_append,Bool.and_eq_true] at h;rw [wfL,wfC_of_parts c deep h.1,wfL_of_parts cs deep h.2];rfl
end
theorem wfC_of_ok {c:CN} (h:conOk c=true):wfC c=true:=by
 unfold conOk at h;rw [Bool.and_eq_true] at h;exact wfC_of_parts c 1 h.2
theorem kidN_in {k:Int} (h:0≤kidN k):0≤k∧k≤7:=by
 by_cases ho:k<0∨7<k
 · rw [kidN_out ho] at h;omega
 omega
theorem shape_facts {c:CN} (h:shapeB c=true):(0≤c.kind∧c.kind≤7)∧(c.kind=2→1≤c.name.length∧c.kids.length=0)∧(roleB c.kind=true→1≤c.role.length)∧(roleB c.kind=false→c.role=[]):=by
 unfold shapeB at h;simp only [Bool.and_eq_true,decide_eq_true_eq] at h;obtain ⟨h1,h2,h3⟩:=h;refine ⟨kidN_in (by omega),fun hk=>?_,fun hr=>?_,fun hr=>?_⟩
 · unfold nameFit at h1;rw [if_pos hk,Bool.and_eq_true] at h1;refine ⟨(longB_of_up h1.1).1,?_⟩;rw [hk] at h3;simp [kidN] at h3;rw [h3];rfl
 · unfold roleFit at h2;rw [if_pos hr] at h2;exact (longB_of_low h2).1
 unfold roleFit at h2;rw [if_neg (by rw [hr];simp)] at h2;exact List.eq_nil_of_length_eq_zero (by simpa using h2)
theorem BoxC.keep5 {W W':World} {base b:Nat} {v0 v1 v2 v3:Value} (h:BoxC W b v0 v1 v2 v3) (hk:Keep5 base W W'):BoxC W' b v0 v1 v2 v3:=hk.2 b _ _ _ (by decide) h
def wordB (k:Int):ByteArray:=if k=0 then ⟨#[84,111,112]⟩ else if k=1 then ⟨#[66,111,116]⟩ else if k=3 then ⟨#[78,111,116]⟩ else if k=4 then ⟨#[65,110,100]⟩ else if k=5 then ⟨#[79,114]⟩ else if k=6 then ⟨#[83,111,109,101]⟩ else if k=7 then ⟨#[65,108,108]⟩ else ⟨#[]⟩
theorem wordB_cells (k:Int):Lib.strCells (wordB k)=(wordOf k).map (Value.int .u8):=by
 unfold wordB wordOf
 repeat' split
 all_goals rfl
theorem wordB_size (k:Int):(wordB k).size=(wordOf k).length:=by
 rw [← Lib.strCells_length,wordB_cells,List.length_map]
set_option maxHeartbeats 400000 in
theorem l2words_any (w:World):Calls Tryz.prog 113 #[] w fun e w'=>e=.returned (.slice (some ⟨w.heap.size,0,none⟩) 8 8)∧(∀ i:Nat,i<8→w'.cell? ⟨w.heap.size,i,none⟩=some (.string (wordB i)))∧Below w.heap.size w w':=by
 go_enter Tryz.func113, Tryz.ntmps113;go_wp2;go_ret;refine ⟨rfl,fun i hi=>?_,(Below.refl _ _).alloc (Nat.le_refl _) _⟩
 match i,hi with
 | 0,_ | 1,_ | 2,_ | 3,_ | 4,_ | 5,_ | 6,_ | 7,_=>simp;rfl
theorem step_append_str {P:Program} {G:Array Oper} {o:Oper} {a:Act} {w:World} {K:Act→World→Prop} {Q:Exit→Act→World→Prop} {E:Prop}
    (I:o.guard=none) (sl x:Operand) (t u:TypeId) (ho:o.op=.call { callee:=.builtin .append,args:=#[sl,x],argTypes:=#[t,u] })
    (base:Nat) (e:TypeId) (i:TypeInfo) (ht:P.underlying t=some (.slice e)) (hu:P.underlying u=some .string) (hi:P.info? e=some i) (hz:i.zero=some (.int .u8 0))
    (A:i.size=1) (J:i.bytes=1) (v:Value) (n:Nat) (xs:List Value) (hs:a.eval sl=v) (q:w.ownsRow base e 1 v n xs) (s:ByteArray) (hx:a.eval x=.string s)
    (L:n+s.size≤maxLen) (z:n+s.size≤140737488355328) (F:base≤w.heap.size)
    (h:∀ v' w',w'.ownsRow base e 1 v' (n+s.size) (xs++Lib.strCells s)→w.grownBy w' v.ownBlock→K (a.put o.dst v') w') :
    if Region.wanted o (yielded G a.tmps)=true then Oper.wp P o a w K Q else E:=by
 have hw:Region.wanted o (yielded G a.tmps)=true:=by simp [Region.wanted,I]
 rw [if_pos hw];obtain ⟨v',w',hr,h2,h3,_⟩:=Lib.run_append_own_string (P:=P) w base t u o.type e i ht hu hi hz A J v n xs q s L z F;unfold Oper.wp execOp;simp only [ho,resolve,invoke,builtin,Sem.run_bind,Sem.run_pure,Result.andThen_ok,List.map_toArray,List.map_cons,List.map_nil,hs,hx,hr];exact h v' w' h2 h3
theorem ownB_str {base:Nat} {W w2:World} {v v':Value} {xs:List Int} {k:Int} (hO:OwnB base W v xs) (hb:base≤W.heap.size)
    (q:w2.ownsRow base 5 1 v' (xs.length+(wordB k).size) (xs.map (Value.int .u8)++Lib.strCells (wordB k))) (D:W.grownBy w2 v.ownBlock) :
    OwnB base w2 v' (xs++wordOf k)∧Keep5 base W w2:=by
 rw [wordB_size,wordB_cells] at q;exact ownB_app hO hb q D
end

section
open Go.RowKit
structure AX where
 kind:Int
 c:CN
 d:CN
 r:List Int
 s:List Int
 a:List Int
 b:List Int
structure RdA (lo hi:Nat) (w:World) (dp:Nat) (c0 c1 c2 c3 d0 d1 d2 d3:Value) (ra:Option Addr) (rn rc:Nat) (sa:Option Addr) (sn sc:Nat) (aa:Option Addr) (an ac:Nat) (ba:Option Addr) (bn bc:Nat) (x:AX):Prop where
 c:RdC lo hi w dp (.agg #[c0,c1,c2,c3]) x.c
 d:RdC lo hi w dp (.agg #[d0,d1,d2,d3]) x.d
 r:Rd lo hi w ra rn rc x.r
 s:Rd lo hi w sa sn sc x.s
 a:Rd lo hi w aa an ac x.a
 b:Rd lo hi w ba bn bc x.b
theorem RdA.below {lo hi B:Nat} {w w':World} {dp:Nat} {c0 c1 c2 c3 d0 d1 d2 d3:Value} {ra:Option Addr} {rn rc:Nat} {sa:Option Addr} {sn sc:Nat} {aa:Option Addr} {an ac:Nat} {ba:Option Addr} {bn bc:Nat} {x:AX}
    (h:RdA lo hi w dp c0 c1 c2 c3 d0 d1 d2 d3 ra rn rc sa sn sc aa an ac ba bn bc x) (hb:Below B w w') (hB:hi≤B):RdA lo hi w' dp c0 c1 c2 c3 d0 d1 d2 d3 ra rn rc sa sn sc aa an ac ba bn bc x :=
 ⟨h.c.below hb hB,h.d.below hb hB,h.r.below hb hB,h.s.below hb hB,h.a.below hb hB,h.b.below hb hB⟩
def BoxA (t:Nat) (W:World) (p:Nat) (k:Int) (c0 c1 c2 c3 d0 d1 d2 d3:Value) (r s a b:Value):Prop:=W.heap[p]?=some (.cells #[.int .i64 k,c0,c1,c2,c3,d0,d1,d2,d3,r,s,a,b] t (0,0))
theorem BoxA.new (t:Nat) (W:World) (k:Int) (c0 c1 c2 c3 d0 d1 d2 d3 r s a b:Value):BoxA t (W.alloc (.cells #[.int .i64 k,c0,c1,c2,c3,d0,d1,d2,d3,r,s,a,b] t)) W.heap.size k c0 c1 c2 c3 d0 d1 d2 d3 r s a b:=World.alloc_heap_new W _
theorem BoxA.below {t:Nat} {W W':World} {p B:Nat} {k:Int} {c0 c1 c2 c3 d0 d1 d2 d3 r s a b:Value} (h:BoxA t W p k c0 c1 c2 c3 d0 d1 d2 d3 r s a b) (hb:Below B W W') (hB:p<B):BoxA t W' p k c0 c1 c2 c3 d0 d1 d2 d3 r s a b:=(hb.block p hB).trans h
theorem BoxA.lt {t:Nat} {W:World} {p:Nat} {k:Int} {c0 c1 c2 c3 d0 d1 d2 d3 r s a b:Value} (h:BoxA t W p k c0 c1 c2 c3 d0 d1 d2 d3 r s a b):p<W.heap.size:=(Array.getElem?_eq_some_iff.1 h).1
theorem BoxA.cells {t:Nat} {W:World} {p:Nat} {k:Int} {c0 c1 c2 c3 d0 d1 d2 d3 r s a b:Value} (h:BoxA t W p k c0 c1 c2 c3 d0 d1 d2 d3 r s a b) :
    W.cell? ⟨p,0,none⟩=some (.int .i64 k)∧W.cell? ⟨p,1,none⟩=some c0∧W.cell? ⟨p,2,none⟩=some c1∧W.cell? ⟨p,3,none⟩=some c2∧W.cell? ⟨p,4,none⟩=some c3∧W.cell? ⟨p,5,none⟩=some d0∧W.cell? ⟨p,6,none⟩=some d1∧W.cell? ⟨p,7,none⟩=some d2∧W.cell? ⟨p,8,none⟩=some d3 ∧
     W.cell? ⟨p,9,none⟩=some r∧W.cell? ⟨p,10,none⟩=some s∧W.cell? ⟨p,11,none⟩=some a∧W.cell? ⟨p,12,none⟩=some b:=by
 unfold BoxA at h;refine ⟨?_,?_,?_,?_,?_,?_,?_,?_,?_,?_,?_,?_,?_⟩ <;> simp [World.cell?,h]
end

section
open Go.RowKit
def BoxS (W:World) (q:Nat) (wd:ByteArray) (bf br bu bx by' bi bp:Bool):Prop:=W.heap[q]?=some (.cells #[.string wd,.bool bf,.bool br,.bool bu,.bool bx,.bool by',.bool bi,.bool bp] 124 (0,0))
theorem BoxS.new (W:World) (wd:ByteArray) (bf br bu bx by' bi bp:Bool):BoxS (W.alloc (.cells #[.string wd,.bool bf,.bool br,.bool bu,.bool bx,.bool by',.bool bi,.bool bp] 124)) W.heap.size wd bf br bu bx by' bi bp:=World.alloc_heap_new W _
theorem BoxS.below {W W':World} {q B:Nat} {wd:ByteArray} {bf br bu bx by' bi bp:Bool} (h:BoxS W q wd bf br bu bx by' bi bp) (hb:Below B W W') (hB:q<B):BoxS W' q wd bf br bu bx by' bi bp:=(hb.block q hB).trans h
theorem BoxS.cells {W:World} {q:Nat} {wd:ByteArray} {bf br bu bx by' bi bp:Bool} (h:BoxS W q wd bf br bu bx by' bi bp) :
    W.cell? ⟨q,0,none⟩=some (.string wd)∧W.cell? ⟨q,1,none⟩=some (.bool bf)∧W.cell? ⟨q,2,none⟩=some (.bool br)∧W.cell? ⟨q,3,none⟩=some (.bool bu)∧W.cell? ⟨q,4,none⟩=some (.bool bx)∧W.cell? ⟨q,5,none⟩=some (.bool by')∧W.cell? ⟨q,6,none⟩=some (.bool bi)∧W.cell? ⟨q,7,none⟩=some (.bool bp):=by
 unfold BoxS at h;refine ⟨?_,?_,?_,?_,?_,?_,?_,?_⟩ <;> simp [World.cell?,h]
set_option maxRecDepth 100000 in
set_option maxHeartbeats 4000000 in
theorem implClauseOk_any {k f r u xp xn yp yn:Int} {ia:Option Addr} {im ic:Nat} {a b:Int} {xs:List (Int × Int)} {w:World} {lo hi:Nat} (h:RP lo hi w ia im ic xs) (Z:hi≤w.heap.size) :
    Calls Tryz.prog 72 #[.agg #[.int .i64 k,.int .i64 f,.int .i64 r,.int .i64 u,.int .i64 xp,.int .i64 xn,.int .i64 yp,.int .i64 yn,.slice ia im ic,.int .i64 a,.int .i64 b]] w fun e w'=>e=.returned (.bool (clauseB k f r u xp xn yp yn xs a b))∧Below w.heap.size w w':=by
 obtain ⟨W,hW⟩:∃ W,W=w.alloc (.cells #[.int .i64 k,.int .i64 f,.int .i64 r,.int .i64 u,.int .i64 xp,.int .i64 xn,.int .i64 yp,.int .i64 yn,.slice ia im ic,.int .i64 a,.int .i64 b] 51):=⟨_,rfl⟩;have HW:Hid (W=w.alloc (.cells #[.int .i64 k,.int .i64 f,.int .i64 r,.int .i64 u,.int .i64 xp,.int .i64 xn,.int .i64 yp,.int .i64 yn,.slice ia im ic,.int .i64 a,.int .i64 b] 51)):=hW;have O:Below w.heap.size w W:=by rw [hW];exact (Below.refl _ _).alloc (Nat.le_refl _) _
 have af:Hid (Below w.heap.size w W):=O;have a0:BoxK 51 W w.heap.size k f r u xp xn yp yn (.slice ia im ic) a b:=by rw [hW];exact BoxK.new _ w _ _ _ _ _ _ _ _ _ _ _
 have HX:Hid (∀ V,Below W.heap.size W V→BoxK 51 V w.heap.size k f r u xp xn yp yn (.slice ia im ic) a b):=fun V hV=>a0.below hV a0.lt
 have ae:Hid (∀ V,Below W.heap.size W V→RP lo hi V ia im ic xs∧hi≤V.heap.size):=fun V hV=>⟨(h.below O Z).below hV (Nat.le_trans Z O.size),Nat.le_trans Z (Nat.le_trans O.size hV.size)⟩
 have a9:∀ V:World,(Instr.build 48 #[]).run Tryz.prog V=.ok (.agg #[.int .i64 0,.int .i64 0]) V:=fun V=>run_build V _ _ _ (by kernel_rfl)
 obtain ⟨C,hC⟩:∃ C,C=clauseB k f r u xp xn yp yn xs a b:=⟨_,rfl⟩;obtain ⟨kn,a2⟩:∃ b,b=knownK k:=⟨_,rfl⟩;obtain ⟨wd,aa⟩:∃ b,b=wordK k:=⟨_,rfl⟩;obtain ⟨bf,a7⟩:∃ b,b=hasF k:=⟨_,rfl⟩;obtain ⟨br,a4⟩:∃ b,b=hasR k:=⟨_,rfl⟩;obtain ⟨bu,a3⟩:∃ b,b=hasU k:=⟨_,rfl⟩;obtain ⟨bx,M⟩:∃ b,b=hasX k:=⟨_,rfl⟩;obtain ⟨by',L⟩:∃ b,b=hasY k:=⟨_,rfl⟩;obtain ⟨bi,a6⟩:∃ b,b=hasI k:=⟨_,rfl⟩;obtain ⟨bp,a5⟩:∃ b,b=hasP k:=⟨_,rfl⟩;have HV:Hid (shapeV k=#[.string wd,.bool bf,.bool br,.bool bu,.bool bx,.bool by',.bool bi,.bool bp]):=by unfold Hid;rw [shapeV,← aa,← a7,← a4,← a3,← M,← L,← a6,← a5]
 have ak:Hid (kn=knownK k):=a2
 have HC:Hid (C=(kn && (numB f 12 bf && (numB r 3 br && (numB u 3 bu && (numB a 4 bp && (numB b 4 bp && (parB xp xn bx && (parB yp yn by' && (indB xs bi && (!(decide (k=1)) || !(noneB yp yn)))))))))))):=by
  unfold Hid;rw [hC,a2,a7,a4,a3,a5,M,L,a6];rfl
 rw [← hC];obtain ⟨z0,z1,z2,z3,z4,z5,z6,z7,z8,z9,z⟩:=a0.cells;clear hW O a0 h hC Z a2 aa a7 a4 a3 M L a6 a5;go_enter Tryz.func72, Tryz.ntmps72;go_upto_region 1 with fail;rw [← HW.out];go_wp2_with fail;refine (shapeOf_any k W).mono ?_;rintro e w1 ⟨rfl,ac⟩;rw [HV.out,← ak.out];have H1:Hid (Below W.heap.size W w1):=ac;clear ac z0 z1 z2 z3 z4 z5 z6 z7 z8 z9 z;obtain ⟨W2,R⟩:∃ W2,W2=w1.alloc (.cells #[.string wd,.bool bf,.bool br,.bool bu,.bool bx,.bool by',.bool bi,.bool bp] 124):=⟨_,rfl⟩;have ad:Hid (W2=w1.alloc (.cells #[.string wd,.bool bf,.bool br,.bool bu,.bool bx,.bool by',.bool bi,.bool bp] 124)):=R;have H2:Hid (Below W.heap.size W W2):=by unfold Hid;rw [R];exact H1.out.alloc H1.out.size _
 have ab:BoxS W2 w1.heap.size wd bf br bu bx by' bi bp:=by rw [R];exact BoxS.new _ _ _ _ _ _ _ _ _
 have ah:w1.heap.size<W2.heap.size:=by rw [R];simp
 have HS:Hid (∀ V,Below W2.heap.size W2 V→BoxS V w1.heap.size wd bf br bu bx by' bi bp):=fun V hV=>ab.below hV ah
 have E:Hid (Below W2.heap.size W2 W2):=Below.refl _ _;obtain ⟨z0,z1,z2,z3,z4,z5,z6,z7,z8,z9,z⟩:=(HX.out _ H1.out).cells;have al:w.heap.size<w1.heap.size:=Nat.lt_of_lt_of_le (by rw [HW.out];simp) H1.out.size;clear R ab;have o:Hid (∀ V,Below W2.heap.size W2 V→Below w.heap.size w V):=fun V hV=>af.out.trans ((H2.out.trans (hV.mono H2.out.size)).mono af.out.size)
 cases kn with
 | false =>
  go_wp2_with fail
  all_goals
   go_ret;exact ⟨rb (by rw [HC.out];rfl),by rw [← ad.out];exact o.out _ E.out⟩
 | true =>
 go_wp2_with fail;refine (numberFits_any f 12 bf _).mono ?_;rintro e w' ⟨rfl,hw⟩;rw [hw,← ad.out];clear hw;clear z0 z1 z2 z3 z4 z5 z6 z7 z8 z9 z;obtain ⟨z0,z1,z2,z3,z4,z5,z6,z7,z8,z9,z⟩:=(HX.out _ H2.out).cells;obtain ⟨s0,s1,s2,s3,s4,s5,s6,s7⟩:=(HS.out _ E.out).cells;obtain ⟨u1,hu⟩:∃ uu,uu=numB f 12 bf:=⟨_,rfl⟩;rw [← hu];have A:Hid (u1=numB f 12 bf):=hu;clear hu;cases u1 with
 | false =>
  go_wp2_with fail
  all_goals
   go_ret;exact ⟨rb (by rw [HC.out,← A.out];rfl),o.out _ E.out⟩
 | true =>
 go_wp2_with fail;refine (numberFits_any r 3 br W2).mono ?_;rintro e w' ⟨rfl,hw⟩;rw [hw];clear hw;obtain ⟨u2,hu⟩:∃ uu,uu=numB r 3 br:=⟨_,rfl⟩;rw [← hu];have D:Hid (u2=numB r 3 br):=hu;clear hu;cases u2 with
 | false =>
  go_wp2_with fail
  all_goals
   go_ret;exact ⟨rb (by rw [HC.out,← A.out,← D.out];rfl),o.out _ E.out⟩
 | true =>
 go_wp2_with fail;refine (numberFits_any u 3 bu W2).mono ?_;rintro e w' ⟨rfl,hw⟩;rw [hw];clear hw;obtain ⟨u3,hu⟩:∃ uu,uu=numB u 3 bu:=⟨_,rfl⟩;rw [← hu];have F:Hid (u3=numB u 3 bu):=hu;clear hu;cases u3 with
 | false =>
  go_wp2_with fail
  all_goals
   go_ret;exact ⟨rb (by rw [HC.out,← A.out,← D.out,← F.out];rfl),o.out _ E.out⟩
 | true =>
 go_wp2_with fail;refine (numberFits_any a 4 bp W2).mono ?_;rintro e w' ⟨rfl,hw⟩;rw [hw];clear hw;obtain ⟨u4,hu⟩:∃ uu,uu=numB a 4 bp:=⟨_,rfl⟩;rw [← hu];have J:Hid (u4=numB a 4 bp):=hu;clear hu;cases u4 with
 | false =>
  go_wp2_with fail
  all_goals
   go_ret;exact ⟨rb (by rw [HC.out,← A.out,← D.out,← F.out,← J.out];rfl),o.out _ E.out⟩
 | true =>
 go_wp2_with fail;refine (numberFits_any b 4 bp W2).mono ?_;rintro e w' ⟨rfl,hw⟩;rw [hw];clear hw;obtain ⟨u5,hu⟩:∃ uu,uu=numB b 4 bp:=⟨_,rfl⟩;rw [← hu];have N:Hid (u5=numB b 4 bp):=hu;clear hu;cases u5 with
 | false =>
  go_wp2_with fail
  all_goals
   go_ret;exact ⟨rb (by rw [HC.out,← A.out,← D.out,← F.out,← J.out,← N.out];rfl),o.out _ E.out⟩
 | true =>
 go_wp2_with fail;refine (partFits_any xp xn bx W2).mono ?_;rintro e v6 ⟨rfl,hb⟩;have T:Hid (Below W2.heap.size W2 v6):=E.out.trans (hb.mono E.out.size);clear hb z0 z1 z2 z3 z4 z5 z6 z7 z8 z9 z s0 s1 s2 s3 s4 s5 s6 s7;obtain ⟨z0,z1,z2,z3,z4,z5,z6,z7,z8,z9,z⟩:=(HX.out _ (H2.out.trans (T.out.mono H2.out.size))).cells;obtain ⟨s0,s1,s2,s3,s4,s5,s6,s7⟩:=(HS.out _ T.out).cells;obtain ⟨u6,hu⟩:∃ uu,uu=parB xp xn bx:=⟨_,rfl⟩;rw [← hu];have U:Hid (u6=parB xp xn bx):=hu;clear hu;cases u6 with
 | false =>
  go_wp2_with fail
  all_goals
   go_ret;exact ⟨rb (by rw [HC.out,← A.out,← D.out,← F.out,← J.out,← N.out,← U.out];rfl),o.out _ T.out⟩
 | true =>
 go_wp2_with fail;refine (partFits_any yp yn by' v6).mono ?_;rintro e v7 ⟨rfl,hb⟩;have I:Hid (Below W2.heap.size W2 v7):=T.out.trans (hb.mono T.out.size);clear hb z0 z1 z2 z3 z4 z5 z6 z7 z8 z9 z s0 s1 s2 s3 s4 s5 s6 s7;obtain ⟨z0,z1,z2,z3,z4,z5,z6,z7,z8,z9,z⟩:=(HX.out _ (H2.out.trans (I.out.mono H2.out.size))).cells;obtain ⟨s0,s1,s2,s3,s4,s5,s6,s7⟩:=(HS.out _ I.out).cells;obtain ⟨u7,hu⟩:∃ uu,uu=parB yp yn by':=⟨_,rfl⟩
 rw [← hu];have a1:Hid (u7=parB yp yn by'):=hu;clear hu;cases u7 with
 | false =>
  go_wp2_with fail
  all_goals
   go_ret;exact ⟨rb (by rw [HC.out,← A.out,← D.out,← F.out,← J.out,← N.out,← U.out,← a1.out];rfl),o.out _ I.out⟩
 | true =>
 go_wp2_with fail;refine (indsFit_any (ae.out _ (H2.out.trans (I.out.mono H2.out.size))).1 (ae.out _ (H2.out.trans (I.out.mono H2.out.size))).2 bi).mono ?_;rintro e v8 ⟨rfl,hb⟩;have G:Hid (Below W2.heap.size W2 v8):=I.out.trans (hb.mono I.out.size);clear hb z0 z1 z2 z3 z4 z5 z6 z7 z8 z9 z s0 s1 s2 s3 s4 s5 s6 s7;obtain ⟨z0,z1,z2,z3,z4,z5,z6,z7,z8,z9,z⟩:=(HX.out _ (H2.out.trans (G.out.mono H2.out.size))).cells;obtain ⟨s0,s1,s2,s3,s4,s5,s6,s7⟩:=(HS.out _ G.out).cells;obtain ⟨u8,hu⟩:∃ uu,uu=indB xs bi:=⟨_,rfl⟩;rw [← hu];have a8:Hid (u8=indB xs bi):=hu;clear hu;cases u8 with
 | false =>
  go_wp2_with fail
  all_goals
   go_ret;exact ⟨rb (by rw [HC.out,← A.out,← D.out,← F.out,← J.out,← N.out,← U.out,← a1.out,← a8.out];rfl),o.out _ G.out⟩
 | true =>
 by_cases hk:k=1
 · have aj:(k != 1)=false:=by simp [hk]
   have HE:Hid (C=!(noneB yp yn)):=by unfold Hid;rw [HC.out,← A.out,← D.out,← F.out,← J.out,← N.out,← U.out,← a1.out,← a8.out];simp [hk]
   clear hk;by_cases hy:yp=0
   · have ag:(yp == 0)=true:=by simp [hy]
     by_cases hn:yn=0
     · have ai:(yn == 0)=true:=by simp [hn]
       have Y:Hid (C=false):=by unfold Hid;rw [HE.out];simp [noneB,hy,hn]
       clear hy hn HE;go_wp2_with fail;go_ret;exact ⟨rb Y.out.symm,o.out _ G.out⟩
     have ai:(yn == 0)=false:=by simpa using hn
     have Y:Hid (C=true):=by unfold Hid;rw [HE.out];simp [noneB,hn]
     clear hy hn HE;go_wp2_with fail;go_ret;exact ⟨rb Y.out.symm,o.out _ G.out⟩
   have ag:(yp == 0)=false:=by simpa using hy
   have Y:Hid (C=true):=by unfold Hid;rw [HE.out];simp [noneB,hy]
   clear hy HE;go_wp2_with fail;go_ret;exact ⟨rb Y.out.symm,o.out _ G.out⟩
 have aj:(k != 1)=true:=by simpa using hk
 have HE:Hid (C=true):=by unfold Hid;rw [HC.out,← A.out,← D.out,← F.out,← J.out,← N.out,← U.out,← a1.out,← a8.out];simp [hk]
 clear hk;go_wp2_with fail;go_ret;exact ⟨rb HE.out.symm,o.out _ G.out⟩
end

end Go.Proofs.YtellcgmabimieaaGreatDoor
